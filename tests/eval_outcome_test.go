package tests

import (
	"math"
	"slices"
	"strings"
	"testing"

	"loop.example/apimigrator/impl"
)

func TestTextsOfOutcomes(t *testing.T) {
	cases := []struct {
		x    impl.Outcome
		want string
	}{
		{impl.Outcome{}, "done 0"},
		{done(7, nil), "done 7"},
		{done(99, []int{}), "done 99"},
		{done(4, []int{1, 2}), "done 4 !1 !2"},
		{done(4, []int{0}, 1, 2, 3), "done 4 !0"},
		{done(-1, []int{-20, 100}), "done -1 !-20 !100"},
		{done(math.MinInt, []int{math.MaxInt}), "done -9223372036854775808 !9223372036854775807"},
		{ended(1, nil), "fuel"},
		{ended(1, []int{5}, 0), "fuel !5"},
		{ended(2, nil), "nest"},
		{ended(2, []int{0, 99, 0}), "nest !0 !99 !0"},
		{ended(3, nil), "invalid"},
		{ended(3, []int{1}), "invalid !1"},
		{impl.Outcome{Code: 1, Value: 8}, "fuel"},
		{impl.Outcome{Code: 2, Value: 8, Out: []int{9}}, "nest !9"},
		{impl.Outcome{Code: 3, Value: -8}, "invalid"},
		{ended(4, nil), ""},
		{ended(4, []int{1, 2}), ""},
		{ended(-1, []int{1}), ""},
		{ended(math.MaxInt, nil), ""},
		{ended(math.MinInt, nil), ""},
		{impl.Outcome{Code: 5, Value: 3, Calls: []int{1}}, ""},
	}
	for _, c := range cases {
		if got := impl.FormatOutcome(c.x); got != c.want {
			t.Errorf("FormatOutcome(%v) = %q, want %q", c.x, got, c.want)
		}
	}
	if got, want := impl.FormatOutcome(ended(1, times(7, 100000))), "fuel"+strings.Repeat(" !7", 100000); got != want {
		t.Errorf("FormatOutcome of much output has %d bytes", len(got))
	}
}

func TestTextsOfOutcomesOfClients(t *testing.T) {
	lib := libraryOf(t, "A2=(a+b)\nB1~A(a,1)\nC1~B(!a)\nE1=[a?(1+E((a+99))):0]\n")
	for text, want := range map[string]string{
		"(!1+{!2;3})":            "done 4 !1 !2",
		"C(5)":                   "done 6 !5",
		"E(40)":                  "done 40",
		"{!7;E(70)}":             "nest !7",
		"{E(50);{!1;{E(50);5}}}": "fuel !1",
		"a":                      "invalid",
		"D()":                    "invalid",
	} {
		if got := impl.FormatOutcome(impl.EvalClient(lib, exprOf(t, text), 100)); got != want {
			t.Errorf("the outcome of %s is %q, want %q", text, got, want)
		}
	}
}

func TestSameAndSeen(t *testing.T) {
	list := []impl.Outcome{
		{},
		{Code: 1}, {Code: 2}, {Code: 3}, {Code: 4}, {Code: -1},
		{Value: 1}, {Value: -1}, {Value: 1000}, {Code: 1, Value: 1},
		{Out: []int{0}}, {Out: []int{1}}, {Out: []int{1, 2}}, {Out: []int{2, 1}}, {Out: []int{1, 2, 3}}, {Code: 1, Out: []int{1}},
		{Calls: []int{0}}, {Calls: []int{1}}, {Calls: []int{1, 2}}, {Calls: []int{2, 1}}, {Calls: []int{1, 2, 3}}, {Code: 1, Calls: []int{1}},
		{Out: []int{1}, Calls: []int{1}}, {Out: []int{1}, Calls: []int{2}}, {Out: []int{2}, Calls: []int{1}}, {Value: 1, Out: []int{1}, Calls: []int{1}},
		{Code: 77, Value: 77, Out: []int{-77}, Calls: []int{-77}}, {Code: 77, Value: 77, Out: []int{-77}, Calls: []int{-78}},
	}
	for i, a := range list {
		for j, b := range list {
			b.Out, b.Calls = slices.Clone(b.Out), slices.Clone(b.Calls)
			if got := impl.OutcomeSame(a, b); got != (i == j) {
				t.Errorf("OutcomeSame of %v and %v = %v", a, b, got)
			}
			want := a.Code == b.Code && a.Value == b.Value && slices.Equal(a.Out, b.Out)
			if got := impl.OutcomeSeen(a, b); got != want {
				t.Errorf("OutcomeSeen of %v and %v = %v", a, b, got)
			}
		}
	}
	empty := impl.Outcome{Out: []int{}, Calls: []int{}}
	if !impl.OutcomeSame(empty, impl.Outcome{}) || !impl.OutcomeSame(impl.Outcome{}, empty) || !impl.OutcomeSeen(empty, impl.Outcome{}) {
		t.Error("empty lists differ from none")
	}
}

// What is called is not seen from outside.
func TestSeenOfClients(t *testing.T) {
	lib := libraryOf(t, "A2=(a+b)\nB1~A(a,1)\nC1~B(!a)\n")
	x, y := impl.EvalClient(lib, exprOf(t, "C(5)"), 10), impl.EvalClient(lib, exprOf(t, "A(!5,1)"), 10)
	if !impl.OutcomeSeen(x, y) || impl.OutcomeSame(x, y) {
		t.Errorf("%v and %v are the same, or seen as different", x, y)
	}
	z := impl.EvalClient(lib, exprOf(t, "A(5,!1)"), 10)
	if impl.OutcomeSeen(x, z) || impl.OutcomeSame(x, z) {
		t.Errorf("%v and %v are the same", x, z)
	}
}

func TestEvaluationKeepsNothing(t *testing.T) {
	const text = "A2={a=(a+b);{!a;a}}\nB1~A(a,!1)\nC1~B(!a)\n"
	lib := append(make([]impl.Def, 0, 10), libraryOf(t, text)...)
	e := exprOf(t, "(C(a)+{a=!B(b);A(2,a)})")
	vars, args := append(make([]int, 0, 8), 5, 6), append(make([]int, 0, 8), 7)
	before, clean := cloned(e), clonedLibrary(lib)
	want := done(16, []int{5, 1, 6, 1, 7, 7, 9}, 2, 1, 0, 1, 0, 0)
	wantCall := done(8, []int{7, 1, 8}, 2, 1, 0)
	want.Value = (6 + 9) % 100
	for range 2 {
		x, y := impl.EvalOpen(lib, e, vars, 20), impl.CallFunction(lib, 2, args, 20)
		wantOutcome(t, "EvalOpen", x, want)
		wantOutcome(t, "CallFunction", y, wantCall)
		impl.OutcomeSame(x, y)
		impl.OutcomeSeen(x, y)
		impl.FormatOutcome(x)
		wantOutcome(t, "EvalOpen", x, want)
		overwriteInts(x.Out)
		wantInts(t, "Calls", x.Calls, want.Calls...)
		overwriteInts(x.Calls)
		overwriteInts(y.Out)
		overwriteInts(y.Calls)
	}
	if !sameDefs(lib, clean) || !sameTree(e, before) {
		t.Errorf("the arguments became %q and %q", textOfLibrary(lib), textOf(e))
	}
	wantInts(t, "vars", vars[:8], 5, 6, 0, 0, 0, 0, 0, 0)
	wantInts(t, "args", args[:8], 7, 0, 0, 0, 0, 0, 0, 0)
}

// overwriteInts also overwrites the memory beyond the length.
func overwriteInts(list []int) {
	list = list[:cap(list)]
	for i := range list {
		list[i] = 77
	}
}
