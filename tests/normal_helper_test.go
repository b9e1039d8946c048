package tests

import (
	"maps"
	"math/rand"
	"strconv"
	"testing"

	"loop.example/apimigrator/impl"
)

// normalByRule is the rule of the document for a valid expression.
func normalByRule(e impl.Expr) (impl.Expr, bool) {
	free, found := freeIn(e), true
	var visit func(x impl.Expr, becomes map[int]int, around map[int]bool) impl.Expr
	visit = func(x impl.Expr, becomes map[int]int, around map[int]bool) impl.Expr {
		c := impl.Expr{Op: x.Op, N: x.N}
		if w, bound := becomes[x.N]; bound && x.Op == impl.OpVar {
			c.N = w
		}
		if x.Op != impl.OpLet {
			for _, kid := range x.Kids {
				c.Kids = append(c.Kids, visit(kid, becomes, around))
			}
			return c
		}
		w := 0
		for free[w] || around[w] {
			w++
		}
		found = found && w < impl.MaxVars
		first := visit(x.Kids[0], becomes, around)
		becomes, around = maps.Clone(becomes), maps.Clone(around)
		becomes[x.N], around[w] = w, true
		return let(w, first, visit(x.Kids[1], becomes, around))
	}
	y := visit(e, map[int]int{}, map[int]bool{})
	if !found {
		return impl.Expr{}, false
	}
	return y, true
}

// mayBeLarge is for the operand i of e, in an expression that is in steps.
func mayBeLarge(e impl.Expr, i int) bool {
	return e.Op == impl.OpLet || e.Op == impl.OpSeq || e.Op == impl.OpIf && i > 0
}

// inStepsByRule is for a valid expression: it looks at all of its parts but itself.
func inStepsByRule(e impl.Expr) bool {
	for _, path := range pathsByRule(e)[1:] {
		last := len(path) - 1
		part, _ := partByRule(e, path)
		parent, _ := partByRule(e, path[:last])
		if !isAtomByRule(part) && !mayBeLarge(parent, path[last]) {
			return false
		}
	}
	return true
}

// namedByRule lists where the operands are that variables are put for, in the
// order in which they are made.
func namedByRule(e impl.Expr, at string) []string {
	var list []string
	for i, kid := range e.Kids {
		list = append(list, namedByRule(kid, at+strconv.Itoa(i))...)
		if !isAtomByRule(kid) && !mayBeLarge(e, i) {
			list = append(list, at+strconv.Itoa(i))
		}
	}
	return list
}

// withNamed is the part of an expression that is at a place, with the names for its operands.
func withNamed(e impl.Expr, at string, names map[string]int) impl.Expr {
	c := impl.Expr{Op: e.Op, N: e.N}
	var made []impl.Expr
	for i, kid := range e.Kids {
		made = append(made, withNamed(kid, at+strconv.Itoa(i), names))
		c.Kids = append(c.Kids, made[i])
		if v, ok := names[at+strconv.Itoa(i)]; ok {
			c.Kids[i] = variable(v)
		}
	}
	for i := len(made) - 1; i >= 0; i-- {
		if v, ok := names[at+strconv.Itoa(i)]; ok {
			c = let(v, made[i], c)
		}
	}
	return c
}

// stepsByRule is the rule of the document for a valid expression: all names are
// found first, and then put in.
func stepsByRule(e impl.Expr) (impl.Expr, bool) {
	taken, names := namesIn(e, impl.OpVar, impl.OpLet), map[string]int{}
	for _, at := range namedByRule(e, "") {
		v := 0
		for taken[v] {
			v++
		}
		taken[v], names[at] = true, v
	}
	y := withNamed(e, "", names)
	if taken[impl.MaxVars] || nodesIn(y) > impl.MaxNodes || levelsOf(y) > impl.MaxDepth {
		return impl.Expr{}, false
	}
	return y, true
}

// fitsByRule is for a valid library and a valid expression.
func fitsByRule(lib []impl.Def, e impl.Expr) bool {
	arities := map[int]int{}
	for _, d := range lib {
		arities[d.Name] = d.Arity
	}
	return wantedCalls(e, arities)
}

// swappedByRule is the rule of the document for a valid library and a valid expression.
func swappedByRule(lib []impl.Def, e impl.Expr) (impl.Expr, bool) {
	if !fitsByRule(lib, e) || e.Op != impl.OpLet || e.Kids[1].Op != impl.OpLet {
		return impl.Expr{}, false
	}
	v, w, x, y := e.N, e.Kids[1].N, e.Kids[0], e.Kids[1].Kids[0]
	if v == w || freeIn(y)[v] || freeIn(x)[w] || !pureByRule(lib, x) && !pureByRule(lib, y) {
		return impl.Expr{}, false
	}
	z := let(w, y, let(v, x, e.Kids[1].Kids[1]))
	if levelsOf(z) > impl.MaxDepth {
		return impl.Expr{}, false
	}
	return z, true
}

// normalWay is a function of the chapter that returns an expression, with what it does by the rules.
type normalWay struct {
	made, rule func(e impl.Expr) (impl.Expr, bool)
}

func normalWays(lib []impl.Def) map[string]normalWay {
	return map[string]normalWay{
		"NormalNames": {impl.NormalNames, normalByRule},
		"ToSteps":     {impl.ToSteps, stepsByRule},
		"SwapLets": {
			func(e impl.Expr) (impl.Expr, bool) { return impl.SwapLets(lib, e) },
			func(e impl.Expr) (impl.Expr, bool) { return swappedByRule(lib, e) },
		},
	}
}

// wantNormal makes one of these of the first text of each case. An = stands for
// the expression as it is, and a - for no result.
func wantNormal(t *testing.T, lib []impl.Def, name string, cases [][2]string) {
	t.Helper()
	w := normalWays(lib)[name]
	for _, c := range cases {
		got, ok := w.made(exprOf(t, c[0]))
		wantText(t, name+" of "+c[0], got, ok, c[0], c[1])
		checkNormal(t, lib, exprOf(t, c[0]), map[string]int{})
	}
}

// checkNormal compares the functions of the chapter with the rules, for a valid
// library and a valid expression, and counts the results.
func checkNormal(t *testing.T, lib []impl.Def, e impl.Expr, count map[string]int) {
	t.Helper()
	for name, w := range normalWays(lib) {
		got, ok := w.made(e)
		want, wantOk := w.rule(e)
		wantSameResult(t, name+" of "+textOf(e)+" with "+textOfLibrary(lib), got, ok, want, wantOk)
		switch {
		case !ok:
			count["no "+name]++
		case sameTree(got, e):
			count["as it is by "+name]++
		default:
			count[name]++
		}
	}
	want := inStepsByRule(e)
	if got := impl.IsSteps(e); got != want {
		t.Errorf("IsSteps of %s = %v", textOf(e), got)
	}
	if want {
		count["in steps"]++
	}
}

// swapCase is a valid library, and a binding in a binding that fits it, with few variables.
func swapCase(r *rand.Rand) ([]impl.Def, impl.Expr) {
	for {
		lib, arities := calmLibrary(r, 3)
		part := func(depth int) impl.Expr {
			x := randomExpr(r, 1+r.Intn(depth), allVars[:1+r.Intn(4)], arities)
			switch r.Intn(3) {
			case 0:
				return quieted(x)
			case 1:
				return out(x)
			}
			return x
		}
		e := let(r.Intn(4), part(4), let(r.Intn(4), part(4), part(4)))
		if impl.LibraryValid(lib) && impl.ExprValid(e, allVars) {
			return lib, e
		}
	}
}
