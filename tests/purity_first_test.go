package tests

import (
	"math"
	"math/rand"
	"strconv"
	"testing"

	"loop.example/apimigrator/impl"
)

func checkFirst(t *testing.T, lib []impl.Def, cases map[string]bool) {
	t.Helper()
	for text, want := range cases {
		e := exprOf(t, text)
		if got := impl.FirstVar(lib, e, 0); got != want {
			t.Errorf("FirstVar of %s = %v", text, got)
		}
		if got := firstByRule(lib, e, 0); got != want {
			t.Errorf("in %s, the rule says %v", text, got)
		}
	}
}

func TestFirstVarOfOperands(t *testing.T) {
	checkFirst(t, nil, map[string]bool{
		"a": true, "b": false, "1": false, "!a": true, "!!a": true, "!b": false, "!1": false,
		"(a+1)": true, "(1+a)": true, "(b+a)": true, "(a<b)": true, "(1<a)": true, "{a;b}": true, "{1;a}": true, "(a+a)": true,
		"(b+1)": false, "(1<2)": false, "{b;c}": false,
		"((1+a)+!2)": true, "(!2+a)": false, "(!2<a)": false, "{!2;a}": false, "(a+!2)": true, "(a<!2)": true, "{a;!2}": true,
		"!(1+a)": true, "!(!1+a)": false, "(!a+a)": true, "(!b+a)": false, "(b+!a)": true, "((b+{c;1})+(2<a))": true, "((b+{c;!1})+(2<a))": false,
	})
}

func TestFirstVarOfCalls(t *testing.T) {
	checkFirst(t, libraryOf(t, purityLibrary), map[string]bool{
		"A(a,1)": true, "A(1,a)": true, "A(!1,a)": false, "A(a,!1)": true, "A(1,2)": false, "H(1,b,a)": true, "H(1,G(),a)": true,
		"H(1,E(),a)": false, "H(G(),D(1),a)": false, "H(a,E(),!1)": true, "A(A(1,2),B(a))": true,
		// What is called with it comes behind it.
		"C(a)": true, "D(a)": true, "F(a)": true, "!C(a)": true, "C(1)": false, "E()": false,
		"(G()+a)": true, "(A(1,b)+a)": true, "(B(G())+a)": true, "{H(1,2,3);a}": true,
		"(C(1)+a)": false, "(D(1)+a)": false, "(E()+a)": false, "(F(1)+a)": false, "(D(0)+a)": false, "(B(E())+a)": false, "(B(F(1))+a)": false,
		"(a+E())": true, "(a+D(1))": true, "{b=E();a}": false, "{b=G();a}": true, "(C(a)+1)": true, "(C(C(a))+!1)": true,
	})
}

func TestFirstVarOfBranches(t *testing.T) {
	checkFirst(t, libraryOf(t, purityLibrary), map[string]bool{
		"[a?1:2]": true, "[a?!1:E()]": true, "[!a?1:2]": true, "[(b<a)?1:2]": true, "[!1?a:a]": false, "[E()?a:a]": false, "[G()?a:a]": true, "[D(1)?a:a]": false,
		"[b?a:a]": true, "[b?!a:(1+a)]": true, "[b?A(1,a):{c=a;!1}]": true, "[b?{!1;a}:{!2;a}]": false,
		"[b?a:1]": false, "[b?1:a]": false, "[1?a:2]": false, "[0?1:a]": false, "[b?a:!1]": false, "[b?!1:a]": false, "[b?!1:!2]": false, "[b?1:2]": false,
		"([b?1:2]+a)": true, "([b?!1:2]+a)": false, "([b?1:!2]+a)": false, "([b?!1:!2]+a)": false, "([b?E():1]+a)": false, "([b?1:D(1)]+a)": false,
		"([b?a:1]+a)": false, "([b?1:a]+a)": false, "([b?a:!1]+a)": false, "([b?!1:a]+a)": false, "([b?a:a]+!1)": true, "([1?2:E()]+a)": false,
		"[[b?a:a]?1:2]": true, "[[b?a:1]?a:a]": false, "[[b?1:2]?a:a]": true, "[[b?!1:2]?a:a]": false,
		"[b?[c?a:a]:a]": true, "[b?[c?a:1]:a]": false, "[b?a:[c?1:a]]": false, "([b?[c?1:2]:3]+a)": true, "([b?[c?1:2]:E()]+a)": false, "([b?[c?a:1]:!2]+a)": false,
	})
}

func TestFirstVarOfLets(t *testing.T) {
	checkFirst(t, libraryOf(t, purityLibrary), map[string]bool{
		"{b=a;1}": true, "{b=1;a}": true, "{b=!1;a}": false, "{b=a;!1}": true, "{b=1;b}": false, "{b=1;!a}": true, "{b=1;{!b;a}}": false, "{b=!a;b}": true, "{b=a;!b}": true,
		// The variable is bound again.
		"{a=1;a}": false, "{a=1;!a}": false, "{a=a;1}": true, "{a=a;!a}": true, "{a=!a;1}": true, "{a=!1;a}": false, "{a=b;a}": false, "{a=G();a}": false,
		"{a={!1;a};a}": false, "{a={a=a;!a};E()}": true, "{a={a=1;a};a}": false,
		"({a=1;a}+a)": true, "({a=1;2}+a)": true, "({a=1;!a}+a)": false, "({a=1;!2}+a)": false, "({a=!1;a}+a)": false, "({a=E();2}+a)": false, "({a=G();2}+a)": true,
		"({a=1;D(a)}+a)": false, "({a=1;C(2)}+a)": false, "({a=1;A(a,G())}+a)": true, "({a=1;B(E())}+a)": false, "({a=1;F(0)}+a)": false,
		"({a=1;[b?a:1]}+a)": true, "({a=1;[b?!1:2]}+a)": false, "({a=1;[b?E():a]}+a)": false, "({a=1;{a;!1}}+a)": false, "({a=1;{b=a;!b}}+a)": false,
		"({a=b;{b=1;a}}+a)": true, "({a=1;{a=a;!a}}+a)": false, "({a=1;{a=a;a}}+a)": true,
		"{b={a=1;a};a}": true, "{b={a=1;!a};a}": false, "{b=1;{a=2;a}}": false, "({b=1;{a=2;a}}+a)": true, "({b=a;{a=2;!a}}+1)": true,
		"[{a=1;a}?a:a]": true, "[b?{a=1;a}:2]": false, "([b?{a=1;a}:2]+a)": true, "([b?{a=1;!a}:2]+a)": false, "[b?{a=1;a}:a]": false, "[b?{a=a;a}:a]": true,
		"{{a=1;a};a}": true, "A({a=1;B(a)},a)": true, "A({a=1;C(a)},a)": false,
	})
}

func TestFirstVarOfEachVariable(t *testing.T) {
	lib := libraryOf(t, purityLibrary)
	for v := range impl.MaxVars {
		w := (v + 1) % impl.MaxVars
		x, y := variable(v), variable(w)
		cases := []struct {
			e            impl.Expr
			wantV, wantW bool
		}{
			{x, true, false},
			{add(x, y), true, true},
			{add(out(x), y), true, false},
			{add(x, out(y)), true, true},
			{let(v, y, x), false, true},
			{let(w, x, y), true, false},
			{let(v, num(1), add(x, y)), false, true},
			{let(v, num(1), add(out(x), y)), false, false},
			{let(v, num(1), add(y, out(x))), false, true},
			{add(let(v, num(1), out(x)), add(x, y)), false, false},
			{choice(num(1), add(x, y), add(y, x)), true, true},
			{choice(num(1), x, y), false, false},
			{call(7, call(6), y, x), true, true},
			{call(7, call(4), y, x), false, false},
		}
		for _, c := range cases {
			if got := impl.FirstVar(lib, c.e, v); got != c.wantV {
				t.Errorf("FirstVar of %s and %d = %v", textOf(c.e), v, got)
			}
			if got := impl.FirstVar(lib, c.e, w); got != c.wantW {
				t.Errorf("FirstVar of %s and %d = %v", textOf(c.e), w, got)
			}
		}
	}
}

func TestFirstVarOfSmallExprs(t *testing.T) {
	for _, text := range []string{"A0=1\nB1=a\nC2=(a+b)\nD3=c\n", "A0=!1\nB1=B(a)\nC2=(a+b)\nD3=A()\n"} {
		lib := libraryOf(t, text)
		for _, e := range smallExprs(2) {
			for _, x := range []impl.Expr{e, add(e, variable(1)), let(1, e, variable(0)), choice(e, variable(0), variable(0)), choice(num(1), e, variable(1))} {
				for v := range 2 {
					if got, want := impl.FirstVar(lib, x, v), firstByRule(lib, x, v); got != want {
						t.Errorf("FirstVar of %s and %d with %s = %v", textOf(x), v, text, got)
					}
				}
			}
		}
	}
}

func TestFirstVarOfRandomExprs(t *testing.T) {
	r := rand.New(rand.NewSource(11))
	found := 0
	for range 20000 {
		lib, e := calmCase(r)
		for v := range impl.MaxVars {
			want := firstByRule(lib, e, v)
			if got := impl.FirstVar(lib, e, v); got != want {
				t.Fatalf("FirstVar of %s and %d with %s = %v", textOf(e), v, textOfLibrary(lib), got)
			}
			if want {
				found++
				checkSeenFirst(t, lib, e, v, randomValues(r))
				checkMovedBack(t, lib, e, v, randomValues(r))
			}
		}
	}
	if found < 5000 {
		t.Errorf("only %d come first", found)
	}
}

// checkSeenFirst lets e put out each value of v that it uses: this is the first that is put out.
func checkSeenFirst(t *testing.T, lib []impl.Def, e impl.Expr, v int, vars []int) {
	t.Helper()
	shown, ok := impl.SubstVar(e, v, out(variable(v)))
	x := impl.EvalOpen(lib, shown, vars, impl.MaxFuel)
	if ok && x.Code != impl.EvalFuel && (len(x.Out) == 0 || x.Out[0] != vars[v]) {
		t.Errorf("with %v and %s, %s evaluates to %v", vars, textOfLibrary(lib), textOf(shown), x)
	}
}

// checkMovedBack puts something that is seen in the place of v, if it has only one.
func checkMovedBack(t *testing.T, lib []impl.Def, e impl.Expr, v int, vars []int) {
	t.Helper()
	if impl.CountVar(e, v) != 1 {
		return
	}
	seen := seq(out(num(55)), out(variable(v)))
	moved, ok := impl.SubstVar(e, v, seen)
	before := let(v, seen, e)
	if !ok || !impl.ExprValid(before, allVars) {
		return
	}
	x, y := impl.EvalOpen(lib, before, vars, impl.MaxFuel), impl.EvalOpen(lib, moved, vars, impl.MaxFuel)
	if x.Code != impl.EvalFuel && y.Code != impl.EvalFuel && !sameOutcome(x, y) {
		t.Errorf("with %v and %s, %s evaluates to %v, and %s to %v", vars, textOfLibrary(lib), textOf(before), x, textOf(moved), y)
	}
}

func TestFirstVarOfInvalidArguments(t *testing.T) {
	for name, lib := range invalidLibraries() {
		for _, e := range []impl.Expr{variable(0), add(variable(0), num(1)), call(0, variable(0))} {
			if impl.FirstVar(lib, e, 0) {
				t.Errorf("%s: FirstVar of %s holds", name, textOf(e))
			}
		}
	}
	lib := libraryOf(t, purityLibrary)
	exprs := invalidExprs()
	for i, e := range endlessExprs() {
		exprs["endless "+strconv.Itoa(i)] = e
	}
	for name, e := range exprs {
		for _, x := range []impl.Expr{e, add(variable(0), e), choice(variable(0), num(2), e), let(0, variable(0), e), call(0, variable(0), e)} {
			for _, v := range []int{0, 1, e.N} {
				if impl.FirstVar(lib, x, v) {
					t.Errorf("%s: FirstVar holds", name)
				}
			}
		}
	}
	for _, text := range []string{"A(a)", "A(a,1,2)", "B(a,1)", "H(a)", "(a+A())", "{a;G(1)}", "{b=a;B()}", "[a?1:C(1,2)]", "B(B(a,a))"} {
		if impl.FirstVar(lib, exprOf(t, text), 0) {
			t.Errorf("%s does not fit, and FirstVar holds", text)
		}
	}
	for _, text := range []string{"A(a)", "(a+H())"} {
		if impl.FirstVar(nil, exprOf(t, text), 0) {
			t.Errorf("without functions, FirstVar of %s holds", text)
		}
	}
	for _, v := range []int{-1, 8, 9, -8, 100, 256, 1 << 32, math.MaxInt, math.MinInt} {
		for _, e := range []impl.Expr{variable(0), variable(v), num(1), out(variable(7)), let(0, variable(v), num(1)), {Op: impl.OpNum, N: v}} {
			if impl.FirstVar(lib, e, v) {
				t.Errorf("FirstVar holds for %d, which is no variable", v)
			}
		}
	}
}
