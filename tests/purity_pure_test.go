package tests

import (
	"math/rand"
	"strconv"
	"testing"

	"loop.example/apimigrator/impl"
)

func TestPureExprs(t *testing.T) {
	lib := libraryOf(t, purityLibrary)
	cases := map[string]bool{
		"1": true, "a": true, "h": true, "(a+b)": true, "(1<a)": true, "[a?b:c]": true, "{a=1;a}": true, "{1;2}": true,
		"!1": false, "!a": false, "(1+!2)": false, "(!1<2)": false, "{!1;2}": false, "{1;!2}": false, "{a=!1;2}": false, "{a=1;!a}": false,
		"[!1?2:3]": false, "[1?!2:3]": false, "[1?2:!3]": false, "[0?!2:3]": false,
		"A(1,2)": true, "B(a)": true, "G()": true, "H(a,b,c)": true, "(G()+B(A(1,G())))": true, "{a=B(1);{G();[a?b:H(1,2,3)]}}": true,
		"C(1)": false, "D(1)": false, "E()": false, "F(1)": false, "D(0)": false,
		"A(!1,2)": false, "A(1,!2)": false, "A(E(),1)": false, "A(1,C(2))": false, "B(D(1))": false, "H(1,2,F(3))": false,
		"[1?2:E()]": false, "[0?D(1):2]": false, "{a=F(1);2}": false, "{1;C(2)}": false, "(G()+E())": false, "(D(1)+G())": false,
	}
	for text, want := range cases {
		if got := impl.IsPure(lib, exprOf(t, text)); got != want {
			t.Errorf("IsPure of %s = %v", text, got)
		}
	}
	for text, want := range map[string]bool{"1": true, "(a+b)": true, "!1": false, "A()": false, "[1?2:H()]": false} {
		if got := impl.IsPure(nil, exprOf(t, text)); got != want {
			t.Errorf("without functions, IsPure of %s = %v", text, got)
		}
	}
}

// Functions that call each other in a circle are not pure, nor is what calls
// them; but what they call may be.
func TestPureCallsAndCircles(t *testing.T) {
	lib := libraryOf(t, "A1=B(a)\nB1=(C(a)+E(a))\nC1=A(a)\nD1=A(a)\nE1=F(a)\nF1=a\nG1=(F(a)+E(a))\nH1=H(a)\n")
	for f, want := range []bool{false, false, false, false, true, true, true, false} {
		if got := impl.IsPure(lib, call(f, num(1))); got != want {
			t.Errorf("IsPure of a call of %d = %v", f, got)
		}
		_, ok := impl.CallBound(lib, call(f, num(1)), impl.MaxFuel)
		if ok != want {
			t.Errorf("CallBound of a call of %d is %v", f, ok)
		}
		if got := impl.FirstVar(lib, add(call(f, num(1)), variable(0)), 0); got != want {
			t.Errorf("FirstVar behind a call of %d = %v", f, got)
		}
		if !impl.FirstVar(lib, call(f, variable(0)), 0) {
			t.Errorf("FirstVar in a call of %d is false", f)
		}
	}
}

func TestPureSmallExprs(t *testing.T) {
	libs := []string{
		"A0=1\nB1=a\nC2=(a+b)\nD3=c\n", "A0=!1\nB1=a\nC2=(a+b)\nD3=c\n", "A0=1\nB1=!a\nC2=B(b)\nD3=A()\n",
		"A0=1\nB1=B(a)\nC2=(a+b)\nD3=C(a,b)\n", "A0=A()\nB1=a\nC2=(B(a)+B(b))\nD3=!c\n",
	}
	for _, text := range libs {
		lib := libraryOf(t, text)
		for _, e := range smallExprs(2) {
			for _, x := range []impl.Expr{e, add(num(1), e), call(1, e), choice(num(1), num(2), e), let(1, num(1), e)} {
				if got, want := impl.IsPure(lib, x), pureByRule(lib, x); got != want {
					t.Errorf("IsPure of %s with %s = %v", textOf(x), text, got)
				}
			}
		}
	}
}

func TestPureExprsPutNothingOutAndComeToAnEnd(t *testing.T) {
	r := rand.New(rand.NewSource(9))
	pure, withCalls, bounded := 0, 0, 0
	for range 20000 {
		lib, e := calmCase(r)
		want := pureByRule(lib, e)
		if got := impl.IsPure(lib, e); got != want {
			t.Fatalf("IsPure of %s with %s = %v", textOf(e), textOfLibrary(lib), got)
		}
		if !want {
			continue
		}
		pure++
		x := impl.EvalOpen(lib, e, randomValues(r), impl.MaxFuel)
		if len(x.Out) != 0 || x.Code == impl.EvalNest || x.Code == impl.EvalInvalid {
			t.Errorf("the pure %s with %s evaluates to %v", textOf(e), textOfLibrary(lib), x)
		}
		if len(x.Calls) != 0 {
			withCalls++
		}
		if n, ok := impl.CallBound(lib, e, impl.MaxFuel); ok {
			bounded++
			x = impl.EvalOpen(lib, e, randomValues(r), n)
			if x.Code != impl.EvalDone || len(x.Calls) > n {
				t.Errorf("with the bound %d, the pure %s with %s evaluates to %v", n, textOf(e), textOfLibrary(lib), x)
			}
		} else if boundByRule(lib, e) <= impl.MaxFuel {
			t.Errorf("there is no bound for the pure %s with %s", textOf(e), textOfLibrary(lib))
		}
	}
	if pure < 4000 || withCalls < 1000 || bounded < 3000 {
		t.Errorf("only %d pure ones, of which %d make calls and %d have a bound", pure, withCalls, bounded)
	}
}

func TestPureOfInvalidArguments(t *testing.T) {
	for name, lib := range invalidLibraries() {
		for _, e := range []impl.Expr{num(1), variable(0), call(0), call(0, num(1)), call(1)} {
			if impl.IsPure(lib, e) {
				t.Errorf("%s: %s is pure", name, textOf(e))
			}
		}
	}
	lib := libraryOf(t, purityLibrary)
	exprs := invalidExprs()
	for i, e := range endlessExprs() {
		exprs["endless "+strconv.Itoa(i)] = e
	}
	for name, e := range exprs {
		for _, x := range []impl.Expr{e, add(num(1), e), choice(num(1), num(2), e), let(0, num(1), e), call(1, e)} {
			if impl.IsPure(lib, x) {
				t.Errorf("%s is pure", name)
			}
		}
	}
	for _, text := range []string{"A()", "A(1)", "A(1,2,3)", "B()", "G(1)", "H()", "(1+B(1,2))", "{a=G(1);2}", "[1?2:A(1)]", "B(G(1))"} {
		if impl.IsPure(lib, exprOf(t, text)) {
			t.Errorf("%s does not fit, and is pure", text)
		}
	}
	for _, text := range []string{"C()", "D()", "H()", "(A()+C())", "A(1)"} {
		if impl.IsPure(libraryOf(t, "A0=1\nB0=2\n"), exprOf(t, text)) {
			t.Errorf("%s calls a function that is not there, and is pure", text)
		}
	}
}

func TestAtoms(t *testing.T) {
	for _, n := range []int{0, 1, 7, 8, 99} {
		if !impl.IsAtom(num(n)) || !impl.IsAtom(impl.Expr{Op: impl.OpNum, N: n, Kids: []impl.Expr{}}) {
			t.Errorf("the number %d is no atom", n)
		}
	}
	for v := range impl.MaxVars {
		if !impl.IsAtom(variable(v)) {
			t.Errorf("the variable %d is no atom", v)
		}
	}
	for _, text := range []string{"!1", "!a", "(1+2)", "(a<b)", "{1;2}", "{a=1;a}", "[1?2:3]", "A()", "A(1)", "H(a,b,c)"} {
		if impl.IsAtom(exprOf(t, text)) {
			t.Errorf("%s is an atom", text)
		}
	}
	for op := -2; op <= 12; op++ {
		for kids := range 4 {
			e := impl.Expr{Op: op, Kids: make([]impl.Expr, kids)}
			if got, want := impl.IsAtom(e), kids == 0 && (op == impl.OpNum || op == impl.OpVar); got != want {
				t.Errorf("IsAtom of the Op %d with %d Kids = %v", op, kids, got)
			}
		}
	}
	for _, e := range endlessExprs() {
		if impl.IsAtom(e) {
			t.Error("an endless expression is an atom")
		}
	}
}
