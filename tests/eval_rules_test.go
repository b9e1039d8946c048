package tests

import (
	"math/rand"
	"testing"

	"loop.example/apimigrator/impl"
)

const evalLibrary = "A2=(a+b)\nB1~A(a,1)\nC1~B(!a)\nD3={{!a;!b};!c}\nE0=!7\nF2={a=b;{b=(a+1);(a+b)}}\nG0=42\nH1=[a?H((a+99)):0]\n"

func TestOutcomesOfClients(t *testing.T) {
	cases := []struct {
		text string
		want impl.Outcome
	}{
		{"0", done(0, nil)},
		{"99", done(99, nil)},
		{"(!1+{!2;3})", done(4, []int{1, 2})},
		{"(1+2)", done(3, nil)},
		{"(49+50)", done(99, nil)},
		{"(50+50)", done(0, nil)},
		{"(99+99)", done(98, nil)},
		{"((99+99)+(99+99))", done(96, nil)},
		{"(1<2)", done(1, nil)},
		{"(2<2)", done(0, nil)},
		{"(3<2)", done(0, nil)},
		{"(0<99)", done(1, nil)},
		{"(99<0)", done(0, nil)},
		{"((60+60)<30)", done(1, nil)},
		{"(!3<!2)", done(0, []int{3, 2})},
		{"{1;2}", done(2, nil)},
		{"{!1;!2}", done(2, []int{1, 2})},
		{"!5", done(5, []int{5})},
		{"!!5", done(5, []int{5, 5})},
		{"!(1+!2)", done(3, []int{2, 3})},
		{"!(60+60)", done(20, []int{20})},
		{"((!1+!2)+(!3+!4))", done(10, []int{1, 2, 3, 4})},
		{"[1?2:3]", done(2, nil)},
		{"[0?2:3]", done(3, nil)},
		{"[99?2:3]", done(2, nil)},
		{"[(50+50)?2:3]", done(3, nil)},
		{"[1?!2:!3]", done(2, []int{2})},
		{"[0?!2:!3]", done(3, []int{3})},
		{"[!0?!2:!3]", done(3, []int{0, 3})},
		{"[!1?C(2):C(3)]", done(3, []int{1, 2}, 2, 1, 0)},
		{"[0?H(99):E()]", done(7, []int{7}, 4)},
		{"[0?H(99):1]", done(1, nil)},
		{"[1?1:H(99)]", done(1, nil)},
		{"G()", done(42, nil, 6)},
		{"A(1,2)", done(3, nil, 0)},
		{"A(99,2)", done(1, nil, 0)},
		{"B(7)", done(8, nil, 1, 0)},
		{"C(5)", done(6, []int{5}, 2, 1, 0)},
		{"D(1,2,3)", done(3, []int{1, 2, 3}, 3)},
		{"H(3)", done(0, nil, 7, 7, 7, 7)},
		{"(E()+E())", done(14, []int{7, 7}, 4, 4)},
		{"{C(1);G()}", done(42, []int{1}, 2, 1, 0, 6)},
	}
	lib := libraryOf(t, evalLibrary)
	for _, c := range cases {
		e := exprOf(t, c.text)
		wantOutcome(t, "EvalClient of "+c.text, impl.EvalClient(lib, e, 100), c.want)
		wantOutcome(t, "EvalOpen of "+c.text, impl.EvalOpen(lib, e, nil, 100), c.want)
		wantOutcome(t, "EvalOpen of "+c.text, impl.EvalOpen(lib, e, []int{3, 98}, 100), c.want)
	}
}

// Arguments are evaluated once each, from left to right, and before the call,
// whatever the function does with them.
func TestArgumentsThatPutOut(t *testing.T) {
	lib := libraryOf(t, "A2=(a+b)\nB2=(b+a)\nC1=7\nD1=((a+a)+(a+a))\nE2=[a?b:0]\nF1={!8;a}\nG3={!c;{!b;!a}}\n")
	cases := []struct {
		text string
		want impl.Outcome
	}{
		{"A(!1,!2)", done(3, []int{1, 2}, 0)},
		{"B(!1,!2)", done(3, []int{1, 2}, 1)},
		{"C(!9)", done(7, []int{9}, 2)},
		{"D(!2)", done(8, []int{2}, 3)},
		{"E(!0,!5)", done(0, []int{0, 5}, 4)},
		{"E(!1,!5)", done(5, []int{1, 5}, 4)},
		{"F(!3)", done(3, []int{3, 8}, 5)},
		{"F(F(!3))", done(3, []int{3, 8, 8}, 5, 5)},
		{"G(!1,!2,!3)", done(1, []int{1, 2, 3, 3, 2, 1}, 6)},
		{"A(F(1),{!2;F(3)})", done(4, []int{8, 2, 8}, 5, 5, 0)},
		{"(A(!1,2)+B(3,!4))", done(10, []int{1, 4}, 0, 1)},
		{"C(C(C(!1)))", done(7, []int{1}, 2, 2, 2)},
		{"[C(!0)?A(!1,!1):A(!2,!2)]", done(2, []int{0, 1, 1}, 2, 0)},
		{"{a=!4;D(a)}", done(16, []int{4}, 3)},
		{"!A(!1,!2)", done(3, []int{1, 2, 3}, 0)},
		{"A({a=!1;!a},{a=!2;!a})", done(3, []int{1, 1, 2, 2}, 0)},
	}
	for _, c := range cases {
		wantOutcome(t, "EvalClient of "+c.text, impl.EvalClient(lib, exprOf(t, c.text), 100), c.want)
	}
	// A call that cannot be made comes behind its arguments, too.
	for text, want := range map[string]impl.Outcome{
		"A(!1,!2)":       ended(1, []int{1, 2}),
		"C({!1;{!2;3}})": ended(1, []int{1, 2}),
		"A(C(!1),!2)":    ended(1, []int{1}),
		"A(!1,C(!2))":    ended(1, []int{1, 2}),
		"(!1+C(!2))":     ended(1, []int{1, 2}),
		"(C(!1)+!2)":     ended(1, []int{1}),
	} {
		wantOutcome(t, "EvalClient without fuel of "+text, impl.EvalClient(lib, exprOf(t, text), 0), want)
	}
	wantOutcome(t, "EvalClient", impl.EvalClient(lib, exprOf(t, "A(F(!1),F(!2))"), 2), ended(1, []int{1, 8, 2, 8}, 5, 5))
	wantOutcome(t, "EvalClient", impl.EvalClient(lib, exprOf(t, "A(F(!1),F(!2))"), 1), ended(1, []int{1, 8, 2}, 5))
}

func TestVariablesThatAreBoundAgain(t *testing.T) {
	lib := libraryOf(t, "A1={a=(a+1);a}\nB1=({a=5;a}+a)\nC1=(A(a)+a)\nD2={a=b;{b=9;(a+A(b))}}\nE1={b=A(a);(a+b)}\n")
	cases := []struct {
		text string
		want impl.Outcome
	}{
		{"{a=1;a}", done(1, nil)},
		{"{a=1;2}", done(2, nil)},
		{"{a=!1;2}", done(2, []int{1})},
		{"{a=!1;!2}", done(2, []int{1, 2})},
		{"{h=7;h}", done(7, nil)},
		{"{a=!1;{a=(a+1);!a}}", done(2, []int{1, 2})},
		{"{a=1;{a=2;a}}", done(2, nil)},
		{"{a=1;({a=2;a}+a)}", done(3, nil)},
		{"{a=1;(a+{a=2;a})}", done(3, nil)},
		{"{a=1;{{a=2;!a};!a}}", done(1, []int{2, 1})},
		{"{a=1;{b={a=2;(a+a)};(a+b)}}", done(5, nil)},
		{"{a={a={a=1;(a+1)};(a+a)};(a+a)}", done(8, nil)},
		{"{a=1;{a={a=(a+1);(a+10)};!a}}", done(12, []int{12})},
		{"{a=1;[{a=0;a}?!9:!a]}", done(1, []int{1})},
		{"{a=1;{b=2;{a=b;{b=a;(a+b)}}}}", done(4, nil)},
		{"{a=1;{b=a;{a=2;!b}}}", done(1, []int{1})},
		{"{a=3;A(a)}", done(4, nil, 0)},
		{"{a=3;(A(a)+a)}", done(7, nil, 0)},
		{"{a=3;{A({a=50;a});a}}", done(3, nil, 0)},
		{"{a=3;(A({a=50;a})+a)}", done(54, nil, 0)},
		{"B(1)", done(6, nil, 1)},
		{"C(1)", done(3, nil, 2, 0)},
		{"{b=8;(C(1)+b)}", done(11, nil, 2, 0)},
		{"D(1,2)", done(12, nil, 3, 0)},
		{"{a=20;{b=30;(D(1,2)+(a+b))}}", done(62, nil, 3, 0)},
		{"E(4)", done(9, nil, 4, 0)},
		{"{b=1;(E(4)+b)}", done(10, nil, 4, 0)},
	}
	for _, c := range cases {
		wantOutcome(t, "EvalClient of "+c.text, impl.EvalClient(lib, exprOf(t, c.text), 100), c.want)
	}
	wantOutcome(t, "EvalOpen", impl.EvalOpen(lib, exprOf(t, "(a+{a=b;!a})"), []int{3, 4}, 0), done(7, []int{4}))
	wantOutcome(t, "EvalOpen", impl.EvalOpen(lib, exprOf(t, "{a=(a+b);{b=(a+b);{!a;!b}}}"), []int{3, 4}, 0), done(11, []int{7, 11}))
	wantOutcome(t, "EvalOpen", impl.EvalOpen(lib, exprOf(t, "{A(b);(a+b)}"), []int{3, 4}, 5), done(7, nil, 0))
	wantOutcome(t, "CallFunction", impl.CallFunction(lib, 3, []int{1, 2}, 5), done(12, nil, 3, 0))
}

// The values are those of the first variables, in order.
func TestOutcomesWithValues(t *testing.T) {
	lib := libraryOf(t, evalLibrary)
	vars := []int{0, 11, 22, 33, 44, 55, 66, 99}
	for n := range len(vars) + 1 {
		for v := range impl.MaxVars {
			want := impl.Outcome{Code: 3}
			if v < n {
				want = done(vars[v], nil)
			}
			wantOutcome(t, "EvalOpen", impl.EvalOpen(lib, variable(v), vars[:n], 0), want)
		}
	}
	cases := []struct {
		text string
		want impl.Outcome
	}{
		{"(a+h)", done(99, nil)},
		{"(b+h)", done(10, nil)},
		{"[a?b:c]", done(22, nil)},
		{"D(!b,c,!d)", done(33, []int{11, 33, 11, 22, 33}, 3)},
		{"{b=c;(b+c)}", done(44, nil)},
		{"(B(h)+H(a))", done(0, nil, 1, 0, 7)},
		{"F(b,c)", done(45, nil, 5)},
	}
	for _, c := range cases {
		wantOutcome(t, "EvalOpen of "+c.text, impl.EvalOpen(lib, exprOf(t, c.text), vars, 9), c.want)
	}
}

func TestCallsOfFunctions(t *testing.T) {
	lib := libraryOf(t, evalLibrary)
	cases := []struct {
		name int
		args []int
		fuel int
		want impl.Outcome
	}{
		{0, []int{1, 2}, 9, done(3, nil, 0)},
		{0, []int{99, 99}, 1, done(98, nil, 0)},
		{0, []int{1, 2}, 0, ended(1, nil)},
		{1, []int{5}, 2, done(6, nil, 1, 0)},
		{1, []int{5}, 1, ended(1, nil, 1)},
		{2, []int{5}, 3, done(6, []int{5}, 2, 1, 0)},
		{2, []int{5}, 1, ended(1, []int{5}, 2)},
		{3, []int{0, 50, 99}, 1, done(99, []int{0, 50, 99}, 3)},
		{4, nil, 200, done(7, []int{7}, 4)},
		{4, []int{}, 200, done(7, []int{7}, 4)},
		{5, []int{3, 4}, 1, done(9, nil, 5)},
		{7, []int{1}, 200, done(0, nil, 7, 7)},
	}
	for _, c := range cases {
		wantOutcome(t, "CallFunction", impl.CallFunction(lib, c.name, c.args, c.fuel), c.want)
	}
}

// All small expressions, against another way to evaluate.
func TestOutcomesOfSmallExprs(t *testing.T) {
	lib := libraryOf(t, "A0=!7\nB1=[a?!(a+96):A()]\nC2=(a+{a=(b<50);a})\nD3={b=!c;(b+a)}\n")
	for _, e := range smallExprs(3) {
		for _, a := range []int{0, 1, 95} {
			want := outcomeByRewriting(lib, withValue(e, 0, a), 2)
			if got := impl.EvalOpen(lib, e, []int{a}, 2); !sameOutcome(got, want) {
				t.Fatalf("EvalOpen of %s with %d = %v, want %v", textOf(e), a, got, want)
			}
		}
	}
}

// Many libraries and clients, against another way to evaluate.
func TestOutcomesOfManyClients(t *testing.T) {
	r := rand.New(rand.NewSource(3))
	ends := map[int]int{}
	for range 20000 {
		lib, arities := randomLibrary(r, 1+r.Intn(4))
		e := randomExpr(r, 1+r.Intn(4), nil, arities)
		fuel := r.Intn(impl.MaxFuel + 1)
		got, want := impl.EvalClient(lib, e, fuel), outcomeByRewriting(lib, e, fuel)
		if !sameOutcome(got, want) {
			t.Fatalf("EvalClient of %s with %d in\n%s = %v, want %v", textOf(e), fuel, textOfLibrary(lib), got, want)
		}
		ends[got.Code]++
		checkOutcome(t, lib, e, fuel, got)
	}
	if ends[impl.EvalDone] < 1000 || ends[impl.EvalFuel] < 100 || ends[impl.EvalNest] < 100 || ends[impl.EvalInvalid] != 0 {
		t.Errorf("%v outcomes by their ends", ends)
	}
}

// checkOutcome checks what holds for every outcome of a client.
func checkOutcome(t *testing.T, lib []impl.Def, e impl.Expr, fuel int, x impl.Outcome) {
	t.Helper()
	if len(x.Calls) > fuel || x.Code == impl.EvalFuel && len(x.Calls) != fuel || x.Code == impl.EvalNest && len(x.Calls) < impl.MaxNest {
		t.Errorf("%s has %d calls with %d: %v", textOf(e), len(x.Calls), fuel, x)
	}
	if x.Value < 0 || x.Value > 99 || x.Code != impl.EvalDone && x.Value != 0 {
		t.Errorf("%s has the value %d", textOf(e), x.Value)
	}
	from := map[int]bool{}
	for _, f := range impl.CallsFrom(lib, e) {
		from[f] = true
	}
	for _, f := range x.Calls {
		if !from[f] {
			t.Errorf("%s calls %d in\n%s", textOf(e), f, textOfLibrary(lib))
		}
	}
}

// The three ways to start an evaluation agree.
func TestWaysToEvaluateAgree(t *testing.T) {
	r := rand.New(rand.NewSource(4))
	for range 3000 {
		lib, arities := randomLibrary(r, 3)
		vars := []int{r.Intn(100), r.Intn(100), r.Intn(100)}[:r.Intn(4)]
		e := randomExpr(r, 4, allVars[:len(vars)], arities)
		fuel := r.Intn(30)
		closed := e
		for v := len(vars) - 1; v >= 0; v-- {
			closed = let(v, num(vars[v]), closed)
		}
		wantOutcome(t, "EvalOpen of "+textOf(e), impl.EvalOpen(lib, e, vars, fuel), impl.EvalClient(lib, closed, fuel))
		for f, arity := range arities {
			client, args := call(f), []int(nil)
			for range arity {
				n := r.Intn(100)
				client.Kids = append(client.Kids, num(n))
				args = append(args, n)
			}
			wantOutcome(t, "CallFunction for "+textOf(client), impl.CallFunction(lib, f, args, fuel), impl.EvalClient(lib, client, fuel))
		}
		if t.Failed() {
			return
		}
	}
}
