package tests

import (
	"testing"

	"loop.example/apimigrator/impl"
)

// step is the text of a rule of the document: what a node becomes at a depth.
type step func(e impl.Expr, depth int) impl.Expr

// changedByRule changes the Kids of a node first, and then the node.
func changedByRule(e impl.Expr, depth int, s step) impl.Expr {
	c := impl.Expr{Op: e.Op, N: e.N}
	for _, kid := range e.Kids {
		c.Kids = append(c.Kids, changedByRule(kid, depth+1, s))
	}
	return s(c, depth)
}

func isAtomByRule(e impl.Expr) bool { return e.Op == impl.OpNum || e.Op == impl.OpVar }

func foldStep(e impl.Expr, depth int) impl.Expr {
	number := func(i int) bool { return e.Kids[i].Op == impl.OpNum }
	switch {
	case e.Op == impl.OpAdd && number(0) && number(1):
		return num((e.Kids[0].N + e.Kids[1].N) % 100)
	case e.Op == impl.OpLess && number(0) && number(1) && e.Kids[0].N < e.Kids[1].N:
		return num(1)
	case e.Op == impl.OpLess && number(0) && number(1):
		return num(0)
	case e.Op == impl.OpIf && number(0) && e.Kids[0].N == 0:
		return e.Kids[2]
	case e.Op == impl.OpIf && number(0), e.Op == impl.OpSeq && isAtomByRule(e.Kids[0]):
		return e.Kids[1]
	}
	return e
}

func atomStep(e impl.Expr, depth int) impl.Expr {
	if e.Op == impl.OpLet && isAtomByRule(e.Kids[0]) {
		if y, ok := replacedByRule(e.Kids[1], e.N, e.Kids[0]); ok {
			return y
		}
	}
	return e
}

func dropStep(lib []impl.Def) step {
	return func(e impl.Expr, depth int) impl.Expr {
		unused := e.Op == impl.OpSeq || e.Op == impl.OpLet && !freeIn(e.Kids[1])[e.N]
		if unused && pureByRule(lib, e.Kids[0]) {
			return e.Kids[1]
		}
		return e
	}
}

func onceStep(lib []impl.Def) step {
	return func(e impl.Expr, depth int) impl.Expr {
		if e.Op != impl.OpLet || timesFree(e.Kids[1], e.N) != 1 || !firstByRule(lib, e.Kids[1], e.N) {
			return e
		}
		y, ok := replacedByRule(e.Kids[1], e.N, e.Kids[0])
		if !ok || depth+levelsOf(y)-1 > impl.MaxDepth {
			return e
		}
		return y
	}
}

// timesFree counts where v is free in e.
func timesFree(e impl.Expr, v int) int {
	if e.Op == impl.OpVar && e.N == v {
		return 1
	}
	n := 0
	for i, kid := range e.Kids {
		if e.Op != impl.OpLet || e.N != v || i == 0 {
			n += timesFree(kid, v)
		}
	}
	return n
}

func levelsOf(e impl.Expr) int {
	n := 1
	for _, kid := range e.Kids {
		n = max(n, 1+levelsOf(kid))
	}
	return n
}

func nodesIn(e impl.Expr) int {
	n := 1
	for _, kid := range e.Kids {
		n += nodesIn(kid)
	}
	return n
}

func tidiedByRule(lib []impl.Def, e impl.Expr) impl.Expr {
	for {
		before := e
		for _, s := range []step{foldStep, atomStep, dropStep(lib), onceStep(lib)} {
			e = changedByRule(e, 1, s)
		}
		if sameTree(e, before) {
			return e
		}
	}
}

// ways are the functions of the chapter that change an expression, with what they do by the rules.
func ways(lib []impl.Def) map[string]way {
	return map[string]way{
		"FoldExpr": {impl.FoldExpr, func(e impl.Expr) impl.Expr { return changedByRule(e, 1, foldStep) }},
		"PutAtoms": {impl.PutAtoms, func(e impl.Expr) impl.Expr { return changedByRule(e, 1, atomStep) }},
		"DropLets": {
			func(e impl.Expr) (impl.Expr, bool) { return impl.DropLets(lib, e) },
			func(e impl.Expr) impl.Expr { return changedByRule(e, 1, dropStep(lib)) },
		},
		"PutOnce": {
			func(e impl.Expr) (impl.Expr, bool) { return impl.PutOnce(lib, e) },
			func(e impl.Expr) impl.Expr { return changedByRule(e, 1, onceStep(lib)) },
		},
		"TidyExpr": {
			func(e impl.Expr) (impl.Expr, bool) { return impl.TidyExpr(lib, e) },
			func(e impl.Expr) impl.Expr { return tidiedByRule(lib, e) },
		},
	}
}

type way struct {
	change func(e impl.Expr) (impl.Expr, bool)
	rule   func(e impl.Expr) impl.Expr
}

// wantChanged applies one of the ways to expressions and compares the results.
func wantChanged(t *testing.T, lib []impl.Def, name string, cases [][2]string) {
	t.Helper()
	w := ways(lib)[name]
	for _, c := range cases {
		got, ok := w.change(exprOf(t, c[0]))
		wantExpr(t, name+" of "+c[0], got, ok, c[1])
		if rule := w.rule(exprOf(t, c[0])); textOf(rule) != c[1] {
			t.Errorf("by the rule, %s of %s = %s, want %s", name, c[0], textOf(rule), c[1])
		}
	}
}
