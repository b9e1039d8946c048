package tests

import (
	"math/rand"
	"testing"

	"loop.example/apimigrator/impl"
)

func defOf(lib []impl.Def, name int) (impl.Def, bool) {
	for _, d := range lib {
		if d.Name == name {
			return d, true
		}
	}
	return impl.Def{}, false
}

// inlinedByRule is the rule of the document for a call that fits, without the limits of the result.
func inlinedByRule(lib []impl.Def, e impl.Expr) (impl.Expr, bool) {
	d, _ := defOf(lib, e.N)
	taken := namesIn(call(0, append([]impl.Expr{d.Body}, e.Kids...)...), impl.OpVar, impl.OpLet)
	for v := range d.Arity {
		taken[v] = true
	}
	var fresh []int
	for range e.Kids {
		w := 0
		for taken[w] {
			w++
		}
		if w >= impl.MaxVars {
			return impl.Expr{}, false
		}
		taken[w] = true
		fresh = append(fresh, w)
	}
	y := cloned(d.Body)
	for v, w := range fresh {
		y, _ = replacedByRule(y, v, variable(w))
	}
	for v := len(fresh) - 1; v >= 0; v-- {
		y = let(fresh[v], cloned(e.Kids[v]), y)
	}
	return y, true
}

// funByRule inlines the calls of a function in a part of an expression that is
// at a depth, and looks at the limits after each step.
func funByRule(lib []impl.Def, e impl.Expr, depth, name int) (impl.Expr, bool) {
	y := impl.Expr{Op: e.Op, N: e.N}
	for _, kid := range e.Kids {
		k, ok := funByRule(lib, kid, depth+1, name)
		if !ok {
			return impl.Expr{}, false
		}
		y.Kids = append(y.Kids, k)
	}
	if e.Op == impl.OpCall && e.N == name {
		z, ok := inlinedByRule(lib, y)
		if !ok || depth+levelsOf(z)-1 > impl.MaxDepth {
			return impl.Expr{}, false
		}
		y = z
	}
	if nodesIn(y) > impl.MaxNodes {
		return impl.Expr{}, false
	}
	return y, true
}

func firstOld(lib []impl.Def, e impl.Expr) (int, bool) {
	calls := namesIn(e, impl.OpCall)
	for name := range impl.MaxFuns {
		if d, ok := defOf(lib, name); ok && d.Old && calls[name] {
			return name, true
		}
	}
	return 0, false
}

// oldByRule inlines the functions out of use; between is done at first, and after each of them.
func oldByRule(lib []impl.Def, e impl.Expr, between func(e impl.Expr) impl.Expr) (impl.Expr, int, bool) {
	e = between(e)
	for times := range 21 {
		name, ok := firstOld(lib, e)
		if !ok {
			return e, times, true
		}
		e, ok = funByRule(lib, e, 1, name)
		if !ok {
			return impl.Expr{}, 0, false
		}
		e = between(e)
	}
	return impl.Expr{}, 0, false
}

func tidyOldByRule(lib []impl.Def, e impl.Expr) (impl.Expr, bool) {
	y, _, ok := oldByRule(lib, e, func(e impl.Expr) impl.Expr { return tidiedByRule(lib, e) })
	return y, ok
}

// callsIn lists the parts of e that are calls.
func callsIn(e impl.Expr) []impl.Expr {
	var list []impl.Expr
	if e.Op == impl.OpCall {
		list = append(list, e)
	}
	for _, kid := range e.Kids {
		list = append(list, callsIn(kid)...)
	}
	return list
}

// wantSameResult compares a result that need not exist with what it is by the rules.
func wantSameResult(t *testing.T, what string, got impl.Expr, ok bool, want impl.Expr, wantOk bool) {
	t.Helper()
	if ok != wantOk || !sameTree(got, want) {
		t.Errorf("%s = %v, %v, want %v, %v", what, got, ok, want, wantOk)
	}
}

// wantFun inlines a function in the first text of each case. There is no result if the second one is empty.
func wantFun(t *testing.T, lib []impl.Def, name int, cases [][2]string) {
	t.Helper()
	for _, c := range cases {
		what := "InlineFun of " + string(rune('A'+name)) + " in " + c[0]
		got, ok := impl.InlineFun(lib, exprOf(t, c[0]), name)
		if c[1] == "" {
			wantNoExpr(t, what, got, ok)
		} else {
			wantExpr(t, what, got, ok, c[1])
		}
		want, wantOk := funByRule(lib, exprOf(t, c[0]), 1, name)
		wantSameResult(t, what, got, ok, want, wantOk)
	}
}

// wantCall is wantFun for the call at the root.
func wantCall(t *testing.T, lib []impl.Def, cases [][2]string) {
	t.Helper()
	for _, c := range cases {
		got, ok := impl.InlineCall(lib, exprOf(t, c[0]))
		if c[1] == "" {
			wantNoExpr(t, "InlineCall of "+c[0], got, ok)
			continue
		}
		wantExpr(t, "InlineCall of "+c[0], got, ok, c[1])
		want, wantOk := inlinedByRule(lib, exprOf(t, c[0]))
		wantSameResult(t, "InlineCall of "+c[0], got, ok, want, wantOk)
	}
}

// wantOld inlines the functions out of use. There is no result if times is -1.
func wantOld(t *testing.T, lib []impl.Def, text string, times int, want string) {
	t.Helper()
	got, n, ok := impl.InlineOld(lib, exprOf(t, text))
	if times == -1 {
		wantNoExpr(t, "InlineOld of "+text, got, ok)
		if n != 0 {
			t.Errorf("InlineOld of %s is done %d times, but false", text, n)
		}
	} else {
		wantExpr(t, "InlineOld of "+text, got, ok, want)
		if n != times {
			t.Errorf("InlineOld of %s is done %d times, want %d", text, n, times)
		}
	}
	rule, m, ruleOk := oldByRule(lib, exprOf(t, text), cloned)
	wantSameResult(t, "InlineOld of "+text, got, ok, rule, ruleOk)
	if m != n {
		t.Errorf("InlineOld of %s is done %d times, by the rules %d", text, n, m)
	}
}

func wantTidyOld(t *testing.T, lib []impl.Def, cases [][2]string) {
	t.Helper()
	for _, c := range cases {
		got, ok := impl.InlineTidy(lib, exprOf(t, c[0]))
		if c[1] == "" {
			wantNoExpr(t, "InlineTidy of "+c[0], got, ok)
		} else {
			wantExpr(t, "InlineTidy of "+c[0], got, ok, c[1])
		}
		want, wantOk := tidyOldByRule(lib, exprOf(t, c[0]))
		wantSameResult(t, "InlineTidy of "+c[0], got, ok, want, wantOk)
	}
}

// callingCase is a valid library, and an expression that fits it and makes
// calls, with few variables, so that there often are fresh ones.
func callingCase(r *rand.Rand) ([]impl.Def, impl.Expr) {
	for {
		lib, arities := calmLibrary(r, 3)
		e := randomExpr(r, 2+r.Intn(3), allVars[:r.Intn(4)], arities)
		for range 1 + r.Intn(3) {
			if len(lib) == 0 {
				break
			}
			d := lib[r.Intn(len(lib))]
			c := call(d.Name)
			for range d.Arity {
				c.Kids = append(c.Kids, randomExpr(r, 1+r.Intn(3), allVars[:3], arities))
			}
			if d.Arity > 0 && r.Intn(3) > 0 {
				c.Kids[r.Intn(d.Arity)] = e
				e = c
			} else if r.Intn(2) == 0 {
				e = let(r.Intn(3), c, e)
			} else {
				e = add(e, c)
			}
		}
		if impl.LibraryValid(lib) && impl.ExprValid(e, allVars) {
			return lib, e
		}
	}
}
