package tests

import (
	"slices"
	"testing"

	"loop.example/apimigrator/impl"
)

// times is a list of n calls of f.
func times(f, n int) []int { return slices.Repeat([]int{f}, n) }

// down calls itself as often within each other as its argument says, and puts that out on its way.
const down = "A1={!a;[a?A((a+99)):0]}\n"

// puts are what down puts out for the first calls.
func puts(from, n int) []int {
	var list []int
	for i := range n {
		list = append(list, from-i)
	}
	return list
}

func TestCallsThatAreTooDeep(t *testing.T) {
	lib := libraryOf(t, down)
	// A of n makes n + 1 calls, the last one of them within n others.
	for n := range 100 {
		want := done(0, puts(n, n+1), times(0, n+1)...)
		if n >= impl.MaxNest {
			want = ended(2, puts(n, 60), times(0, 60)...)
		}
		e := call(0, num(n))
		wantOutcome(t, "EvalClient of "+textOf(e), impl.EvalClient(lib, e, impl.MaxFuel), want)
		wantOutcome(t, "EvalOpen of A(a)", impl.EvalOpen(lib, call(0, variable(0)), []int{n}, impl.MaxFuel), want)
		wantOutcome(t, "CallFunction", impl.CallFunction(lib, 0, []int{n}, impl.MaxFuel), want)
	}
}

// Without fuel, a call that is too deep ends with EvalFuel, and with a unit
// that is left, it ends with EvalNest and takes none.
func TestTooDeepWithLittleFuel(t *testing.T) {
	lib := libraryOf(t, down)
	e := exprOf(t, "A(99)")
	for fuel := range impl.MaxFuel + 1 {
		want := ended(2, puts(99, 60), times(0, 60)...)
		if fuel <= 60 {
			want = ended(1, puts(99, fuel), times(0, fuel)...)
		}
		wantOutcome(t, "EvalClient of A(99)", impl.EvalClient(lib, e, fuel), want)
	}
}

// Only calls whose Bodies are being evaluated count: not those that are over,
// and not the call of which an argument is evaluated.
func TestCallsThatAreNotDeep(t *testing.T) {
	lib := libraryOf(t, "A1={!a;[a?A((a+99)):0]}\nB1=a\nC2=a\nD1=(A(a)+A(a))\nE0=E()\nF1=A(A(a))\nG1=[a?G(B((a+99))):B(7)]\nH1=[a?B(H((a+99))):5]\n")
	cases := []struct {
		text string
		want impl.Outcome
	}{
		{"(A(59)+A(59))", done(0, append(puts(59, 60), puts(59, 60)...), times(0, 120)...)},
		{"(A(59)+A(60))", ended(2, append(puts(59, 60), puts(60, 60)...), times(0, 120)...)},
		{"C(A(59),A(59))", done(0, append(puts(59, 60), puts(59, 60)...), append(times(0, 120), 2)...)},
		{"B(A(59))", done(0, puts(59, 60), append(times(0, 60), 1)...)},
		{"B(B(B(A(59))))", done(0, puts(59, 60), append(times(0, 60), 1, 1, 1)...)},
		{"D(58)", done(0, append(puts(58, 59), puts(58, 59)...), append([]int{3}, times(0, 118)...)...)},
		{"D(59)", ended(2, puts(59, 59), append([]int{3}, times(0, 59)...)...)},
		{"F(58)", done(0, append(puts(58, 59), 0), append([]int{5}, times(0, 60)...)...)},
		{"E()", ended(2, nil, times(4, 60)...)},
		{"{A(3);E()}", ended(2, puts(3, 4), append(times(0, 4), times(4, 60)...)...)},
		{"(!1+{E();!2})", ended(2, []int{1}, times(4, 60)...)},
		{"{a=E();!a}", ended(2, nil, times(4, 60)...)},
		{"[E()?!1:!2]", ended(2, nil, times(4, 60)...)},
		{"!E()", ended(2, nil, times(4, 60)...)},
		{"C(!3,E())", ended(2, []int{3}, times(4, 60)...)},
		{"C(E(),!3)", ended(2, nil, times(4, 60)...)},
	}
	for _, c := range cases {
		wantOutcome(t, "EvalClient of "+c.text, impl.EvalClient(lib, exprOf(t, c.text), impl.MaxFuel), c.want)
	}
	// In G, the call of B is within as many calls as that of G behind it.
	var calls []int
	for range 59 {
		calls = append(calls, 6, 1)
	}
	wantOutcome(t, "EvalClient of G(58)", impl.EvalClient(lib, exprOf(t, "G(58)"), 200), done(7, nil, calls...))
	wantOutcome(t, "EvalClient of G(59)", impl.EvalClient(lib, exprOf(t, "G(59)"), 200), ended(2, nil, append(calls, 6)...))
	// In H, the call of B comes when that of H is over.
	wantOutcome(t, "EvalClient of H(59)", impl.EvalClient(lib, exprOf(t, "H(59)"), 200), done(5, nil, append(times(7, 60), times(1, 59)...)...))
}

func TestFuel(t *testing.T) {
	lib := libraryOf(t, "A0=!1\nB1={!2;(A()+a)}\nC1=[a?{A();C((a+99))}:9]\nD2=(a+b)\n")
	const text = "{B(A());{!3;D(A(),!4)}}"
	wants := []impl.Outcome{
		ended(1, nil),
		ended(1, []int{1}, 0),
		ended(1, []int{1, 2}, 0, 1),
		ended(1, []int{1, 2, 1, 3}, 0, 1, 0),
		ended(1, []int{1, 2, 1, 3, 1, 4}, 0, 1, 0, 0),
		done(5, []int{1, 2, 1, 3, 1, 4}, 0, 1, 0, 0, 3),
		done(5, []int{1, 2, 1, 3, 1, 4}, 0, 1, 0, 0, 3),
	}
	for fuel, want := range wants {
		wantOutcome(t, "EvalClient of "+text, impl.EvalClient(lib, exprOf(t, text), fuel), want)
	}
	// Nothing but calls takes fuel.
	for text, want := range map[string]int{"0": 0, "!!(1+2)": 3, "{a=1;[(a<2)?{a;!a}:A()]}": 1} {
		if got := impl.EvalClient(lib, exprOf(t, text), 0); got.Code != 0 || got.Value != want {
			t.Errorf("EvalClient of %s without fuel = %v", text, got)
		}
	}
	// C of n makes 2 n + 1 calls.
	loop := exprOf(t, "{C(50);C(49)}")
	if got := impl.EvalClient(lib, loop, 200); got.Code != 0 || got.Value != 9 || len(got.Calls) != 200 || len(got.Out) != 99 {
		t.Errorf("EvalClient with 200 calls = %v", got)
	}
	if got := impl.EvalClient(lib, loop, 199); got.Code != 1 || got.Value != 0 || len(got.Calls) != 199 || len(got.Out) != 99 {
		t.Errorf("EvalClient with 199 calls = %v", got)
	}
	more := exprOf(t, "{C(50);{C(49);A()}}")
	if got := impl.EvalClient(lib, more, 200); got.Code != 1 || len(got.Calls) != 200 || len(got.Out) != 99 {
		t.Errorf("EvalClient with more than 200 calls = %v", got)
	}
}

// With less fuel, an outcome is cut off at a call; with more, it is the same.
func TestOutcomesByFuel(t *testing.T) {
	lib := libraryOf(t, evalLibrary)
	for _, text := range []string{"(C(1)+{D(!1,C(2),!3);H(20)})", "{!1;{H(99);!2}}", "F(C(E()),{a=E();A(a,a)})"} {
		e := exprOf(t, text)
		most := impl.EvalClient(lib, e, impl.MaxFuel)
		for fuel := range impl.MaxFuel + 1 {
			x := impl.EvalClient(lib, e, fuel)
			if fuel >= len(most.Calls)+1 || fuel == len(most.Calls) && most.Code == 0 {
				wantOutcome(t, text, x, most)
				continue
			}
			if x.Code != 1 || x.Value != 0 || !slices.Equal(x.Calls, most.Calls[:fuel]) || len(x.Out) > len(most.Out) || !slices.Equal(x.Out, most.Out[:len(x.Out)]) {
				t.Errorf("%s with %d = %v", text, fuel, x)
			}
		}
	}
}
