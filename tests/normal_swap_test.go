package tests

import (
	"math/rand"
	"testing"

	"loop.example/apimigrator/impl"
)

func TestCommutesWith(t *testing.T) {
	lib := libraryOf(t, purityLibrary)
	pure := []string{"7", "a", "(a+b)", "[a?b:c]", "{a=1;a}", "{1;2}", "A(1,2)", "B(a)", "G()", "H(a,b,c)", "{a=B(1);{G();[a?b:H(1,2,3)]}}"}
	// They put something out, or need not end, or both.
	other := []string{"!1", "!a", "(1+!2)", "{a=!1;2}", "[0?!2:3]", "E()", "C(1)", "D(1)", "D(0)", "F(1)", "(G()+E())", "A(1,C(2))", "B(D(1))", "[1?2:F(3)]", "!D(1)"}
	for i, x := range append(pure, other...) {
		for k, y := range append(pure, other...) {
			want := i < len(pure) || k < len(pure)
			if got := impl.CommutesWith(lib, exprOf(t, x), exprOf(t, y)); got != want {
				t.Errorf("CommutesWith of %s and %s = %v", x, y, got)
			}
		}
	}
	for _, c := range []struct {
		x, y string
		want bool
	}{{"1", "2", true}, {"1", "!2", true}, {"!1", "2", true}, {"!1", "!2", false}, {"a", "!h", true}, {"A()", "1", false}, {"1", "A()", false}} {
		if got := impl.CommutesWith(nil, exprOf(t, c.x), exprOf(t, c.y)); got != c.want {
			t.Errorf("without functions, CommutesWith of %s and %s = %v", c.x, c.y, got)
		}
	}
}

func TestCommutesWithRandomExprs(t *testing.T) {
	r := rand.New(rand.NewSource(54))
	commute, not := 0, 0
	for range 6000 {
		lib, e := swapCase(r)
		x, y := e.Kids[0], e.Kids[1].Kids[0]
		want := pureByRule(lib, x) || pureByRule(lib, y)
		if impl.CommutesWith(lib, x, y) != want || impl.CommutesWith(lib, y, x) != want {
			t.Errorf("CommutesWith of %s and %s with %s is not %v", textOf(x), textOf(y), textOfLibrary(lib), want)
		}
		if want {
			commute++
		} else {
			not++
		}
	}
	if commute < 2000 || not < 1000 {
		t.Errorf("%d commute, %d do not", commute, not)
	}
}

func TestSwappedLets(t *testing.T) {
	wantNormal(t, libraryOf(t, purityLibrary), "SwapLets", [][2]string{
		{"{a=1;{b=2;(a+b)}}", "{b=2;{a=1;(a+b)}}"}, {"{b=1;{a=2;(a+b)}}", "{a=2;{b=1;(a+b)}}"}, {"{g=1;{h=2;3}}", "{h=2;{g=1;3}}"}, {"{a=A(c,1);{b=B(2);(a+b)}}", "{b=B(2);{a=A(c,1);(a+b)}}"},
		{"{a=(1+2);{b=[c?{d=1;d}:{1;2}];[a?b:c]}}", "{b=[c?{d=1;d}:{1;2}];{a=(1+2);[a?b:c]}}"}, {"{a=c;{b=c;(a+b)}}", "{b=c;{a=c;(a+b)}}"},
		// One of the operands may be one that is not pure, but not both.
		{"{a=!1;{b=2;a}}", "{b=2;{a=!1;a}}"}, {"{a=1;{b=!2;a}}", "{b=!2;{a=1;a}}"}, {"{a=!1;{b=!2;a}}", "-"}, {"{a=C(1);{b=A(2,3);b}}", "{b=A(2,3);{a=C(1);b}}"}, {"{a=C(1);{b=E();b}}", "-"}, {"{a=E();{b=!1;b}}", "-"},
		{"{a=D(1);{b=2;b}}", "{b=2;{a=D(1);b}}"}, {"{a=D(1);{b=!2;b}}", "-"}, {"{a=!1;{b=D(0);b}}", "-"}, {"{a=D(1);{b=D(2);b}}", "-"}, {"{a=F(1);{b=F(2);b}}", "-"}, {"{a=[0?!1:2];{b=E();3}}", "-"}, {"{a=B(1);{b=(G()+E());a}}", "{b=(G()+E());{a=B(1);a}}"},
		// What is done behind them does not matter.
		{"{a=1;{b=2;!(a+!b)}}", "{b=2;{a=1;!(a+!b)}}"}, {"{a=!1;{b=2;{E();C(D(a))}}}", "{b=2;{a=!1;{E();C(D(a))}}}"}, {"{a=1;{b=2;{c=!a;{d=!b;(c+d)}}}}", "{b=2;{a=1;{c=!a;{d=!b;(c+d)}}}}"}, {"{a=1;{b=2;{a=b;{b=a;!(a+b)}}}}", "{b=2;{a=1;{a=b;{b=a;!(a+b)}}}}"},
	})
}

// A variable must not be captured, nor get free; but a name may stand anywhere else.
func TestSwappedLetsAndNames(t *testing.T) {
	wantNormal(t, nil, "SwapLets", [][2]string{
		{"{a=1;{b=a;b}}", "-"}, {"{a=b;{b=1;a}}", "-"}, {"{a=b;{b=a;(a+b)}}", "-"}, {"{a=1;{b=[0?a:2];b}}", "-"}, {"{a=(1+{c=2;(b+c)});{b=3;a}}", "-"}, {"{a=1;{b={c=a;c};b}}", "-"}, {"{a=1;{b=!a;b}}", "-"}, {"{a=!b;{b=1;a}}", "-"}, {"{a=1;{b=a;2}}", "-"}, {"{a=b;{b=1;2}}", "-"},
		// Free in its own operand.
		{"{a=a;{b=2;a}}", "{b=2;{a=a;a}}"}, {"{a=1;{b=b;b}}", "{b=b;{a=1;b}}"}, {"{a=(a+c);{b=(b+c);(a+(b+c))}}", "{b=(b+c);{a=(a+c);(a+(b+c))}}"}, {"{a=!a;{b=(b+b);A(a,b)}}", "-"}, {"{a=!a;{b=(b+b);[a?b:a]}}", "{b=(b+b);{a=!a;[a?b:a]}}"},
		// Bound, but not free there.
		{"{a=1;{b={a=2;a};(a+b)}}", "{b={a=2;a};{a=1;(a+b)}}"}, {"{a={b=1;b};{b=2;(a+b)}}", "{b=2;{a={b=1;b};(a+b)}}"}, {"{a={b=1;!b};{b={a=2;a};(a+b)}}", "{b={a=2;a};{a={b=1;!b};(a+b)}}"}, {"{a={b=b;b};{b=2;a}}", "-"}, {"{a=1;{b={a=a;a};b}}", "-"}, {"{a=1;{b=({a=2;a}+a);b}}", "-"},
		// Two bindings of the same variable.
		{"{a=1;{a=2;a}}", "-"}, {"{a=1;{a=2;3}}", "-"}, {"{h=1;{h=!2;!h}}", "-"}, {"{a=1;{a=a;a}}", "-"}, {"{b=a;{b=c;a}}", "-"},
	})
}

func TestSwappedLetsOfOtherShapes(t *testing.T) {
	wantNormal(t, libraryOf(t, "A0=1\nB1=a\nC2=(a+b)\n"), "SwapLets", [][2]string{
		{"7", "-"}, {"a", "-"}, {"A()", "-"}, {"B({a=1;{b=2;3}})", "-"}, {"C(1,{a=1;{b=2;3}})", "-"}, {"C({a=1;{b=2;3}},{a=1;{b=2;3}})", "-"}, {"(1+{a=1;{b=2;3}})", "-"}, {"({a=1;2}<{b=2;3})", "-"}, {"[1?{b=2;3}:{c=2;3}]", "-"}, {"!{a=1;{b=2;3}}", "-"},
		{"{a=1;2}", "-"}, {"{a=1;a}", "-"}, {"{a={b=1;b};a}", "-"}, {"{a={b=1;{c=2;3}};a}", "-"}, {"{1;{a=2;a}}", "-"}, {"{a=1;{2;3}}", "-"}, {"{a=1;{2;{b=3;b}}}", "-"}, {"{{a=1;{b=2;3}};4}", "-"}, {"{1;{a=1;{b=2;3}}}", "-"}, {"{a=1;!{b=2;b}}", "-"}, {"{a=1;({b=2;b}+3)}", "-"}, {"{a=1;[a?{b=2;b}:{c=3;c}]}", "-"}, {"{a=1;B({b=2;b})}", "-"},
		// Only the two at the root are exchanged.
		{"{a=1;{b=2;{c=3;{d=4;5}}}}", "{b=2;{a=1;{c=3;{d=4;5}}}}"}, {"{a={c=1;{d=2;c}};{b={e=1;{f=2;e}};{g=1;{h=2;g}}}}", "{b={e=1;{f=2;e}};{a={c=1;{d=2;c}};{g=1;{h=2;g}}}}"},
	})
}

func TestSwappedLetsAtTheLimits(t *testing.T) {
	one, lib := num(1), libraryOf(t, "A0=1\n")
	for _, c := range []struct {
		x, y, z impl.Expr
		want    bool
	}{
		// The first operand of the outer one becomes a level deeper.
		{behind(10, one), one, one, true}, {behind(11, one), one, one, true}, {behind(12, one), one, one, false}, {chain(12), one, one, true}, {chain(13), one, one, false}, {behind(12, one), behind(11, one), chain(12), false},
		{one, behind(11, one), one, true}, {one, chain(12), one, true}, {one, one, chain(12), true}, {one, one, behind(11, one), true}, {behind(11, one), behind(11, one), behind(11, one), true}, {behind(11, call(0)), behind(11, call(0)), chain(12), true},
		// The number of nodes stays.
		{one, closedWide(76), one, true}, {wide(76), one, one, true}, {one, one, wide(76), true}, {one, seqs(26), seqs(51), true}, {seqs(26), one, seqs(51), true}, {wide(39), wide(37), wide(2), true},
		{seqs(25), seqs(25), seqs(28), false},
	} {
		e := let(0, c.x, let(1, c.y, c.z))
		if !impl.ExprValid(e, allVars) {
			t.Errorf("%s is not valid", textOf(e))
		}
		got, ok := impl.SwapLets(lib, e)
		if ok != c.want {
			t.Errorf("SwapLets of %s = %s, %v", textOf(e), textOf(got), ok)
		}
		checkNormal(t, lib, e, map[string]int{})
	}
}

func TestSwappedLetsOfSmallExprs(t *testing.T) {
	count := map[string]int{}
	for _, text := range []string{"A0=7\n", "A0=!7\n", "A0=A()\n"} {
		lib, kids := libraryOf(t, text), tangled(2)
		for i, x := range kids {
			for k, y := range kids {
				z := kids[(i+k)%len(kids)]
				checkNormal(t, lib, let(0, x, let(1, y, z)), count)
				checkNormal(t, lib, let(1, x, let(0, y, z)), count)
				checkNormal(t, lib, let(1, x, let(1, y, z)), count)
			}
		}
	}
	wantCounts(t, count, map[string]int{"SwapLets": 3000, "no SwapLets": 10000})
}

// Exchanging what was exchanged leads back.
func TestSwappedLetsSwapBack(t *testing.T) {
	r := rand.New(rand.NewSource(55))
	swapped := 0
	for range 6000 {
		lib, e := swapCase(r)
		got, ok := impl.SwapLets(lib, e)
		if !ok {
			continue
		}
		swapped++
		back, ok := impl.SwapLets(lib, got)
		wantSameResult(t, "SwapLets of "+textOf(got), back, ok, e, true)
		if nodesIn(got) != nodesIn(e) {
			t.Errorf("SwapLets of %s = %s", textOf(e), textOf(got))
		}
	}
	if swapped < 1500 {
		t.Errorf("only %d were exchanged", swapped)
	}
}
