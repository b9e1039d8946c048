package tests

import (
	"math"
	"testing"

	"loop.example/apimigrator/impl"
)

func TestInvalidFuel(t *testing.T) {
	lib := libraryOf(t, evalLibrary)
	for _, fuel := range []int{-1, -2, -200, 201, 202, 1000, math.MaxInt, math.MinInt} {
		for _, text := range []string{"0", "!1", "E()", "A(1,2)"} {
			e := exprOf(t, text)
			wantInvalid(t, "EvalClient of "+text, impl.EvalClient(lib, e, fuel))
			wantInvalid(t, "EvalOpen of "+text, impl.EvalOpen(lib, e, nil, fuel))
			wantInvalid(t, "EvalOpen of "+text, impl.EvalOpen(lib, e, []int{1}, fuel))
		}
		wantInvalid(t, "CallFunction", impl.CallFunction(lib, 4, nil, fuel))
		wantInvalid(t, "CallFunction", impl.CallFunction(lib, 0, []int{1, 2}, fuel))
	}
	for fuel := range impl.MaxFuel + 1 {
		wantOutcome(t, "EvalClient", impl.EvalClient(lib, num(5), fuel), done(5, nil))
	}
}

func TestEvaluationInInvalidLibraries(t *testing.T) {
	clients := []impl.Expr{num(1), out(num(1)), call(0), call(0, num(1)), call(1), call(0, num(1), num(2), num(3))}
	for name, lib := range invalidLibraries() {
		for _, e := range clients {
			wantInvalid(t, name+": EvalClient of "+textOf(e), impl.EvalClient(lib, e, 10))
			wantInvalid(t, name+": EvalOpen of "+textOf(e), impl.EvalOpen(lib, e, nil, 10))
			wantInvalid(t, name+": EvalOpen of "+textOf(e), impl.EvalOpen(lib, e, []int{1, 2}, 10))
		}
		for f := -1; f <= 8; f++ {
			for arity := range 4 {
				wantInvalid(t, name+": CallFunction", impl.CallFunction(lib, f, []int{1, 2, 3}[:arity], 10))
			}
		}
	}
}

func TestEvaluationOfInvalidExprs(t *testing.T) {
	lib := libraryOf(t, evalLibrary)
	exprs := invalidExprs()
	for i, e := range endlessExprs() {
		exprs["endless "+string(rune('0'+i))] = e
	}
	for name, e := range exprs {
		// Also where it would not be evaluated.
		for _, x := range []impl.Expr{e, seq(out(num(1)), e), choice(num(1), num(2), e), let(0, num(1), e)} {
			wantInvalid(t, name+": EvalClient", impl.EvalClient(lib, x, 10))
			wantInvalid(t, name+": EvalOpen", impl.EvalOpen(lib, x, []int{1, 2, 3, 4, 5, 6, 7, 8}, 10))
		}
	}
}

func TestEvaluationOfNoClients(t *testing.T) {
	lib := libraryOf(t, evalLibrary)
	for _, text := range []string{
		"a", "h", "(1+a)", "!a", "{a=a;1}", "({a=1;a}+a)", "{a=1;b}", "A(1,a)", "[1?2:a]", "[0?a:1]",
		"A()", "A(1)", "A(1,2,3)", "B()", "E(1)", "D(1,2)", "[1?2:A()]", "{!1;G(1)}", "{a=G(1);a}",
	} {
		e := exprOf(t, text)
		wantInvalid(t, "EvalClient of "+text, impl.EvalClient(lib, e, 10))
		wantInvalid(t, "EvalOpen of "+text, impl.EvalOpen(lib, e, nil, 10))
	}
	few := libraryOf(t, "A2=(a+b)\nC0=1\n")
	for _, text := range []string{"B()", "B(1)", "D()", "H()", "[1?2:H()]", "{C();A(1,B())}"} {
		e := exprOf(t, text)
		wantInvalid(t, "EvalClient of "+text, impl.EvalClient(few, e, 10))
		wantInvalid(t, "EvalOpen of "+text, impl.EvalOpen(few, e, []int{1, 2}, 10))
	}
	for _, text := range []string{"A(1,2)", "C()"} {
		wantInvalid(t, "EvalClient without functions of "+text, impl.EvalClient(nil, exprOf(t, text), 10))
		wantInvalid(t, "EvalOpen without functions of "+text, impl.EvalOpen(nil, exprOf(t, text), nil, 10))
	}
	wantOutcome(t, "EvalClient without functions", impl.EvalClient(nil, exprOf(t, "(!1+2)"), 0), done(3, []int{1}))
}

func TestInvalidValues(t *testing.T) {
	lib := libraryOf(t, evalLibrary)
	for _, n := range []int{-1, 100, -99, 101, math.MaxInt, math.MinInt} {
		for i := range impl.MaxVars {
			vars := make([]int, impl.MaxVars)
			vars[i] = n
			wantInvalid(t, "EvalOpen of a", impl.EvalOpen(lib, variable(0), vars, 10))
			wantInvalid(t, "EvalOpen of 1", impl.EvalOpen(lib, num(1), vars[:i+1], 10))
		}
		wantInvalid(t, "CallFunction", impl.CallFunction(lib, 0, []int{n, 1}, 10))
		wantInvalid(t, "CallFunction", impl.CallFunction(lib, 0, []int{1, n}, 10))
		wantInvalid(t, "CallFunction", impl.CallFunction(lib, 1, []int{n}, 10))
		wantInvalid(t, "CallFunction", impl.CallFunction(lib, 3, []int{1, 2, n}, 0))
	}
	for _, n := range []int{0, 1, 98, 99} {
		wantOutcome(t, "EvalOpen", impl.EvalOpen(lib, variable(0), []int{n}, 10), done(n, nil))
		wantOutcome(t, "CallFunction", impl.CallFunction(lib, 0, []int{n, 0}, 10), done(n, nil, 0))
	}
	for many := range 20 {
		got := impl.EvalOpen(lib, num(1), make([]int, many), 10)
		if many <= impl.MaxVars {
			wantOutcome(t, "EvalOpen", got, done(1, nil))
		} else {
			wantInvalid(t, "EvalOpen", got)
		}
	}
	huge := make([]int, 1000000)
	wantInvalid(t, "EvalOpen", impl.EvalOpen(lib, num(1), huge, 10))
	wantInvalid(t, "CallFunction", impl.CallFunction(lib, 0, huge, 10))
}

// A variable that has no value is refused, also where it would not be evaluated.
func TestVariablesWithoutValues(t *testing.T) {
	lib := libraryOf(t, evalLibrary)
	for text, free := range map[string]int{
		"b": 2, "h": 8, "(a+c)": 3, "[1?2:d]": 4, "{e=e;1}": 5, "{e=1;e}": 0, "({b=1;b}+b)": 2, "{b=1;(a+b)}": 1, "{f=c;{c=f;c}}": 3, "A(b,a)": 2,
	} {
		e := exprOf(t, text)
		for n := range impl.MaxVars + 1 {
			got := impl.EvalOpen(lib, e, make([]int, n), 10)
			if n < free {
				wantInvalid(t, "EvalOpen of "+text, got)
			} else if got.Code != impl.EvalDone {
				t.Errorf("EvalOpen of %s with %d values = %v", text, n, got)
			}
		}
	}
}

func TestInvalidCallsOfFunctions(t *testing.T) {
	lib := libraryOf(t, "A0=1\nB1=a\nD2=(a+b)\nH3=c\n")
	arities := map[int]int{0: 0, 1: 1, 3: 2, 7: 3}
	for name := -2; name <= 10; name++ {
		for many := range 6 {
			got := impl.CallFunction(lib, name, make([]int, many), 10)
			arity, ok := arities[name]
			if !ok || many != arity {
				wantInvalid(t, "CallFunction", got)
			} else if got.Code != impl.EvalDone || len(got.Calls) != 1 || got.Calls[0] != name {
				t.Errorf("CallFunction of %d with %d arguments = %v", name, many, got)
			}
		}
	}
	for _, name := range []int{math.MaxInt, math.MinInt, 1 << 32} {
		wantInvalid(t, "CallFunction", impl.CallFunction(lib, name, nil, 10))
	}
	wantInvalid(t, "CallFunction without functions", impl.CallFunction(nil, 0, nil, 10))
}
