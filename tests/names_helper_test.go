package tests

import (
	"slices"
	"strconv"
	"strings"
	"testing"

	"loop.example/apimigrator/impl"
)

// namesIn collects the N of the nodes of e with one of some Ops.
func namesIn(e impl.Expr, ops ...int) map[int]bool {
	names := map[int]bool{}
	if slices.Contains(ops, e.Op) {
		names[e.N] = true
	}
	for _, kid := range e.Kids {
		for n := range namesIn(kid, ops...) {
			names[n] = true
		}
	}
	return names
}

func freeIn(e impl.Expr) map[int]bool {
	free := map[int]bool{}
	if e.Op == impl.OpVar {
		free[e.N] = true
	}
	for i, kid := range e.Kids {
		for n := range freeIn(kid) {
			if e.Op != impl.OpLet || i != 1 || n != e.N {
				free[n] = true
			}
		}
	}
	return free
}

// replacedByRule is the rule of the document, sentence by sentence, without the
// functions under test and without the limits of the result.
func replacedByRule(e impl.Expr, v int, x impl.Expr) (impl.Expr, bool) {
	if e.Op == impl.OpVar {
		if e.N == v {
			return cloned(x), true
		}
		return e, true
	}
	if e.Op == impl.OpLet {
		return replacedInLet(e, v, x)
	}
	c := impl.Expr{Op: e.Op, N: e.N}
	for _, kid := range e.Kids {
		k, ok := replacedByRule(kid, v, x)
		if !ok {
			return impl.Expr{}, false
		}
		c.Kids = append(c.Kids, k)
	}
	return c, true
}

func replacedInLet(e impl.Expr, v int, x impl.Expr) (impl.Expr, bool) {
	n, second := e.N, e.Kids[1]
	first, ok := replacedByRule(e.Kids[0], v, x)
	if !ok {
		return impl.Expr{}, false
	}
	if n == v || !freeIn(second)[v] {
		return let(n, first, cloned(second)), true
	}
	if freeIn(x)[n] {
		taken := namesIn(second, impl.OpVar, impl.OpLet)
		w := 0
		for taken[w] || freeIn(x)[w] || w == v {
			w++
		}
		if w >= impl.MaxVars {
			return impl.Expr{}, false
		}
		second, _ = replacedByRule(second, n, variable(w))
		n = w
	}
	second, ok = replacedByRule(second, v, x)
	if !ok {
		return impl.Expr{}, false
	}
	return let(n, first, second), true
}

// indexed writes e without the names of bound variables: each is written as the
// number of OpLet between it and its own one. The variable v, where it is free,
// is written as by; nothing that is written there can be captured.
func indexed(e impl.Expr, v int, by string) string {
	var write func(e impl.Expr, bound []int) string
	write = func(e impl.Expr, bound []int) string {
		if e.Op == impl.OpVar {
			i := slices.Index(bound, e.N)
			switch {
			case i >= 0:
				return "#" + strconv.Itoa(i)
			case e.N == v:
				return by
			}
			return "free" + strconv.Itoa(e.N)
		}
		name := strconv.Itoa(e.N)
		if e.Op == impl.OpLet {
			name = "let"
		}
		var kids []string
		for i, kid := range e.Kids {
			inner := bound
			if e.Op == impl.OpLet && i == 1 {
				inner = append([]int{e.N}, bound...)
			}
			kids = append(kids, write(kid, inner))
		}
		return strconv.Itoa(e.Op) + ":" + name + "(" + strings.Join(kids, ",") + ")"
	}
	return write(e, nil)
}

func wantExpr(t *testing.T, what string, got impl.Expr, ok bool, want string) {
	t.Helper()
	if !ok || !sameTree(got, exprOf(t, want)) {
		t.Errorf("%s = %v, %v, want %s", what, got, ok, want)
	}
}

func wantNoExpr(t *testing.T, what string, got impl.Expr, ok bool) {
	t.Helper()
	if ok || !isZero(got) {
		t.Errorf("%s = %v, %v, want none", what, got, ok)
	}
}
