package tests

import (
	"math/rand"
	"strings"
	"testing"

	"loop.example/apimigrator/impl"
)

// checkReplacedBefore compares e with its variable v replaced by x, e with the
// value of x for v, and e in a let that evaluates x before.
func checkReplacedBefore(t *testing.T, lib []impl.Def, e impl.Expr, v int, x impl.Expr, vars []int) bool {
	t.Helper()
	replaced, ok := impl.SubstVar(e, v, x)
	if !ok {
		return false
	}
	before := impl.EvalOpen(lib, x, vars, 0)
	with := append([]int{}, vars...)
	with[v] = before.Value
	want := impl.EvalOpen(lib, e, with, impl.MaxFuel)
	got := impl.EvalOpen(lib, replaced, vars, impl.MaxFuel)
	if before.Code != impl.EvalDone || want.Code == impl.EvalInvalid || !sameOutcome(got, want) {
		t.Errorf("with %v, %s evaluates to %v, but %s with %s before to %v", vars, textOf(replaced), got, textOf(e), textOf(x), want)
	}
	if in := let(v, x, e); impl.ExprValid(in, allVars) {
		wantOutcome(t, textOf(in), impl.EvalOpen(lib, in, vars, impl.MaxFuel), want)
	}
	closed := replaced
	for n, value := range vars {
		closed = withValue(closed, n, value)
	}
	wantOutcome(t, textOf(closed), outcomeByRewriting(lib, closed, impl.MaxFuel), want)
	return true
}

func TestReplacingIsEvaluatingBefore(t *testing.T) {
	lib := libraryOf(t, evalLibrary)
	vars := []int{11, 22, 33, 44, 55, 66, 77, 88}
	texts := []string{
		"a", "b", "!a", "(a+a)", "{!a;!b}", "{a=a;a}", "{a=!a;!(a+b)}", "{b=2;(a+b)}", "{b=!a;!(a+b)}",
		"{b=2;{c=b;(a+c)}}", "{b=1;{a=b;!a}}", "[(a<b)?!a:!b]", "{b=2;[(a<b)?{c=a;!(b+c)}:!c]}", "({b=1;(a+b)}+{b=2;(b+c)})",
	}
	xs := []string{"7", "a", "b", "(a+1)", "(b+1)", "(b+c)", "{b=c;(b+a)}", "[(b<c)?b:c]", "{a;{b=b;b}}"}
	for _, text := range texts {
		for _, x := range xs {
			for _, v := range []int{0, 1, 2} {
				if !checkReplacedBefore(t, lib, exprOf(t, text), v, exprOf(t, x), vars) {
					t.Errorf("in %s, %d is not replaced by %s", text, v, x)
				}
			}
		}
	}
}

func TestReplacingInRandomExprsIsEvaluatingBefore(t *testing.T) {
	r := rand.New(rand.NewSource(6))
	compared := 0
	for range 120 {
		lib, arities := randomLibrary(r, 4)
		if !impl.LibraryValid(lib) {
			continue
		}
		for range 60 {
			e := randomExpr(r, 2+r.Intn(4), allVars, arities)
			x := randomExpr(r, 1+r.Intn(3), allVars, nil)
			vars := make([]int, impl.MaxVars)
			for i := range vars {
				vars[i] = r.Intn(4) * r.Intn(30)
			}
			if strings.Contains(textOf(x), "!") || !impl.ExprValid(e, allVars) {
				continue
			}
			if checkReplacedBefore(t, lib, e, r.Intn(impl.MaxVars), x, vars) {
				compared++
			}
		}
	}
	if compared < 3000 {
		t.Errorf("only %d compared", compared)
	}
}

// What is equal but for bound names has the same outcome.
func TestRenamedExprsHaveTheSameOutcome(t *testing.T) {
	r := rand.New(rand.NewSource(7))
	lib := libraryOf(t, evalLibrary)
	vars := []int{11, 22, 33}
	different := 0
	for range 5000 {
		a := let(r.Intn(8), randomExpr(r, 3, allVars[:3], nil), randomExpr(r, 4, allVars[:3], nil))
		if !impl.ExprValid(a, allVars[:3]) {
			continue
		}
		b, ok := impl.RenameBound(a, r.Intn(8))
		if !ok {
			continue
		}
		if textOf(a) != textOf(b) {
			different++
		}
		if !impl.SameNames(a, b) {
			t.Errorf("SameNames of %s and %s is false", textOf(a), textOf(b))
		}
		wantOutcome(t, textOf(b), impl.EvalOpen(lib, b, vars, impl.MaxFuel), impl.EvalOpen(lib, a, vars, impl.MaxFuel))
	}
	if different < 500 {
		t.Errorf("only %d were renamed", different)
	}
}
