package tests

import (
	"math/rand"
	"slices"
	"testing"

	"loop.example/apimigrator/impl"
)

func TestCallersOf(t *testing.T) {
	for _, c := range []struct {
		lib  string
		want map[int][]int
	}{
		{"", nil},
		{"A0=1\n", nil},
		{"A1=(a+1)\nB1~A(A(a))\nC1=(A(a)+B(a))\nD0~7\n", map[int][]int{0: {1, 2}, 1: {2}}},
		// Only those that call it themselves.
		{"A0=1\nB0=A()\nC0=B()\nD0=C()\n", map[int][]int{0: {1}, 1: {2}, 2: {3}}},
		{"A0=B()\nB0=C()\nC0=D()\nD0=1\n", map[int][]int{1: {0}, 2: {1}, 3: {2}}},
		// A function that calls itself, and circles.
		{"A0=A()\n", map[int][]int{0: {0}}},
		{"A1=0\nC1=[a?C(A(a)):1]\nH0~C(1)\n", map[int][]int{0: {2}, 2: {2, 7}}},
		{"A0=B()\nB0=C()\nC0=A()\n", map[int][]int{0: {2}, 1: {0}, 2: {1}}},
		{"A0=(A()+B())\nB0=(A()+B())\n", map[int][]int{0: {0, 1}, 1: {0, 1}}},
		// The parts of a Body in which there is a call.
		{"A1=a\nB1={a=A(1);a}\nC1={b=1;A(b)}\nD1={A(1);1}\nE1={1;A(1)}\nF1=!A(1)\nG1=[A(1)?1:2]\nH1=(1<A(1))\n", map[int][]int{0: {1, 2, 3, 4, 5, 6, 7}}},
		{"A1=a\nB3=1\nC1=[0?A(1):2]\nD1=[0?1:A(2)]\nE1=E(A(2))\nF1=B(1,2,A(3))\nG1=B(A(1),2,3)\nH1=(A(1)+1)\n", map[int][]int{0: {2, 3, 4, 5, 6, 7}, 1: {5, 6}, 4: {4}}},
		// All are called by all.
		{"F0=(F()+(G()+H()))\nG0=(F()+(G()+H()))\nH0=(F()+(G()+H()))\n", map[int][]int{5: {5, 6, 7}, 6: {5, 6, 7}, 7: {5, 6, 7}}},
	} {
		lib := libraryOf(t, c.lib)
		for name := -2; name < 12; name++ {
			wantInts(t, "CallersOf in "+c.lib, impl.CallersOf(lib, name), c.want[name]...)
		}
	}
	// What is no function has no callers.
	lib := eightFuns()
	for _, name := range []int{-1, 8, 63, 64, 256, 1 << 32, 1 << 62, -1 << 63, -8, -256} {
		wantInts(t, "CallersOf what is no function", impl.CallersOf(lib, name))
	}
	for name := range impl.MaxFuns {
		wantInts(t, "CallersOf in a circle", impl.CallersOf(lib, name), (name+7)%impl.MaxFuns)
	}
}

func TestUnusedFuns(t *testing.T) {
	const (
		plain  = "A1=(a+1)\nB1=A(A(a))\nC1=(A(a)+B(a))\nD0=7\n"
		circle = "A0=B()\nB0=D()\nC0=B()\nD0=C()\nE0~E()\nF0=A()\nG0~1\n"
	)
	for _, c := range []struct {
		lib     string
		clients []string
		unused  []int
		trimmed string
	}{
		{"", nil, nil, ""}, {"", []string{"1", "!2"}, nil, ""}, {"A0=1\n", nil, []int{0}, ""}, {"A0=1\n", []string{"A()"}, nil, "A0=1\n"},
		{plain, []string{"B(1)", "3"}, []int{2, 3}, "A1=(a+1)\nB1=A(A(a))\n"},
		// Without clients, and with clients without calls.
		{plain, nil, []int{0, 1, 2, 3}, ""}, {plain, []string{"3"}, []int{0, 1, 2, 3}, ""}, {plain, []string{"{a=1;!a}", "[1?2:3]"}, []int{0, 1, 2, 3}, ""},
		{circle, nil, []int{0, 1, 2, 3, 4, 5, 6}, ""},
		// What one of several clients calls is used, in any order, and also twice.
		{plain, []string{"A(1)"}, []int{1, 2, 3}, "A1=(a+1)\n"}, {plain, []string{"A(1)", "D()"}, []int{1, 2}, "A1=(a+1)\nD0=7\n"}, {plain, []string{"D()", "A(1)"}, []int{1, 2}, "A1=(a+1)\nD0=7\n"},
		{plain, []string{"D()", "1", "D()", "D()"}, []int{0, 1, 2}, "D0=7\n"}, {plain, []string{"C(D())"}, nil, plain}, {plain, []string{"D()", "C(1)", "A(2)"}, nil, plain},
		// Also what is not evaluated.
		{plain, []string{"[0?D():1]"}, []int{0, 1, 2}, "D0=7\n"}, {plain, []string{"{a=B(1);2}"}, []int{2, 3}, "A1=(a+1)\nB1=A(A(a))\n"},
		// Functions that call themselves or each other, and functions out of use.
		{circle, []string{"A()"}, []int{4, 5, 6}, "A0=B()\nB0=D()\nC0=B()\nD0=C()\n"}, {circle, []string{"C()"}, []int{0, 4, 5, 6}, "B0=D()\nC0=B()\nD0=C()\n"},
		{circle, []string{"E()"}, []int{0, 1, 2, 3, 5, 6}, "E0~E()\n"}, {circle, []string{"(G()+F())"}, []int{4}, "A0=B()\nB0=D()\nC0=B()\nD0=C()\nF0=A()\nG0~1\n"},
	} {
		lib, clients := libraryOf(t, c.lib), clientsOf(t, c.clients...)
		wantInts(t, "UnusedFuns of "+c.lib, impl.UnusedFuns(lib, clients), c.unused...)
		got, ok := impl.TrimLibrary(lib, clients)
		wantLibrary(t, "TrimLibrary of "+c.lib, got, ok, c.trimmed)
		checkTrimmed(t, lib, clients, map[string]int{})
	}
}

func clientsOf(t *testing.T, texts ...string) []impl.Expr {
	t.Helper()
	var clients []impl.Expr
	for _, text := range texts {
		clients = append(clients, exprOf(t, text))
	}
	return clients
}

// There are at most 10 clients, whatever they call.
func TestManyClients(t *testing.T) {
	const text = "A0=1\nB0=A()\nC0=2\n"
	lib := libraryOf(t, text)
	for many := range 25 {
		for _, client := range []string{"7", "B()", "{a=A();!a}"} {
			clients := slices.Repeat(clientsOf(t, client), many)
			for _, last := range []string{client, "C()"} {
				if many > 0 {
					clients[many-1] = exprOf(t, last)
				}
				if many <= 10 {
					checkTrimmed(t, lib, clients, map[string]int{})
				} else {
					wantNotTrimmed(t, numberText(many)+" clients", lib, clients)
				}
			}
		}
	}
	wantNotTrimmed(t, "11 clients without functions", nil, slices.Repeat(clientsOf(t, "1"), 11))
	wantNotTrimmed(t, "11 clients of a circle", eightFuns(), slices.Repeat(clientsOf(t, "A(1)"), 11))
	got, ok := impl.TrimLibrary(eightFuns(), slices.Repeat(clientsOf(t, "H(1)"), 10))
	wantLibrary(t, "TrimLibrary with 10 clients of a circle", got, ok, textOfLibrary(eightFuns()))
}

func wantNotTrimmed(t *testing.T, what string, lib []impl.Def, clients []impl.Expr) {
	t.Helper()
	wantInts(t, "UnusedFuns with "+what, impl.UnusedFuns(lib, clients))
	got, ok := impl.TrimLibrary(lib, clients)
	wantLibrary(t, "TrimLibrary with "+what, got, ok, "-")
}

// All graphs of calls among three functions, with all clients that call some of them.
func TestTrimmedGraphs(t *testing.T) {
	names, count := []int{0, 3, 7}, map[string]int{}
	for bits := range 1 << 12 {
		lib := libraryOfBits(names, bits)
		one, each := num(1), []impl.Expr{num(2)}
		for i, f := range names {
			if bits>>(9+i)&1 == 1 {
				one, each = add(call(f), one), append(each, call(f))
			}
		}
		checkTrimmed(t, lib, []impl.Expr{one}, count)
		checkTrimmed(t, lib, each, count)
		if t.Failed() {
			return
		}
	}
	wantCounts(t, count, map[string]int{"none used": 1000, "all used": 1000, "some used": 2000})
}

// A client has the same outcomes with what is left, in which all is used.
func TestTrimmedLibrariesServeTheirClients(t *testing.T) {
	r := rand.New(rand.NewSource(61))
	count := map[string]int{}
	for range 2000 {
		lib, clients := trimCase(r)
		checkTrimmed(t, lib, clients, count)
		got, ok := impl.TrimLibrary(lib, clients)
		if !ok || !impl.LibraryValid(got) || len(impl.UnusedFuns(got, clients)) != 0 {
			t.Fatalf("TrimLibrary of %s = %s, %v", textOfLibrary(lib), textOfLibrary(got), ok)
		}
		for _, e := range clients {
			for _, fuel := range []int{0, 2, 20, impl.MaxFuel} {
				wantOutcome(t, textOf(e)+" with "+textOfLibrary(got), impl.EvalClient(got, e, fuel), impl.EvalClient(lib, e, fuel))
			}
		}
		// With one function less, a client would not fit, or another function.
		for _, d := range got {
			less, ok := impl.RemoveFun(got, d.Name)
			if ok && !slices.ContainsFunc(clients, func(e impl.Expr) bool { return !impl.ClientValid(less, e) }) {
				t.Errorf("without %s, all fits with %s", textOf(call(d.Name)), textOfLibrary(got))
			}
		}
	}
	wantCounts(t, count, map[string]int{"none used": 300, "all used": 100, "some used": 500})
}
