package tests

import (
	"strconv"
	"strings"
	"testing"

	"loop.example/apimigrator/impl"
)

func num(n int) impl.Expr      { return impl.Expr{Op: impl.OpNum, N: n} }
func variable(n int) impl.Expr { return impl.Expr{Op: impl.OpVar, N: n} }
func out(x impl.Expr) impl.Expr {
	return impl.Expr{Op: impl.OpOut, Kids: []impl.Expr{x}}
}
func call(f int, kids ...impl.Expr) impl.Expr {
	return impl.Expr{Op: impl.OpCall, N: f, Kids: kids}
}
func add(x, y impl.Expr) impl.Expr {
	return impl.Expr{Op: impl.OpAdd, Kids: []impl.Expr{x, y}}
}
func less(x, y impl.Expr) impl.Expr {
	return impl.Expr{Op: impl.OpLess, Kids: []impl.Expr{x, y}}
}
func seq(x, y impl.Expr) impl.Expr {
	return impl.Expr{Op: impl.OpSeq, Kids: []impl.Expr{x, y}}
}
func choice(x, y, z impl.Expr) impl.Expr {
	return impl.Expr{Op: impl.OpIf, Kids: []impl.Expr{x, y, z}}
}
func let(v int, x, y impl.Expr) impl.Expr {
	return impl.Expr{Op: impl.OpLet, N: v, Kids: []impl.Expr{x, y}}
}

// textOf writes the text that the document gives for e, without any limits.
func textOf(e impl.Expr) string {
	var kids []string
	for _, k := range e.Kids {
		kids = append(kids, textOf(k))
	}
	switch e.Op {
	case impl.OpNum:
		return strconv.Itoa(e.N)
	case impl.OpVar:
		return string(rune('a' + e.N))
	case impl.OpCall:
		return string(rune('A'+e.N)) + "(" + strings.Join(kids, ",") + ")"
	case impl.OpAdd:
		return "(" + kids[0] + "+" + kids[1] + ")"
	case impl.OpLess:
		return "(" + kids[0] + "<" + kids[1] + ")"
	case impl.OpIf:
		return "[" + kids[0] + "?" + kids[1] + ":" + kids[2] + "]"
	case impl.OpLet:
		return "{" + string(rune('a'+e.N)) + "=" + kids[0] + ";" + kids[1] + "}"
	case impl.OpSeq:
		return "{" + kids[0] + ";" + kids[1] + "}"
	}
	return "!" + kids[0]
}

// chain has the given depth, and as many nodes.
func chain(depth int) impl.Expr {
	e := num(1)
	for range depth - 1 {
		e = out(e)
	}
	return e
}

// wide has the given number of nodes, and not more levels than it needs to.
func wide(nodes int) impl.Expr {
	switch {
	case nodes == 1:
		return variable(7)
	case nodes%2 == 0:
		return out(wide(nodes - 1))
	}
	left := (nodes - 1) / 2
	if left%2 == 0 {
		left--
	}
	return add(wide(left), wide(nodes-1-left))
}

func wantInts(t *testing.T, what string, got []int, want ...int) {
	t.Helper()
	if len(got) != len(want) {
		t.Errorf("%s = %v, want %v", what, got, want)
		return
	}
	for i := range got {
		if got[i] != want[i] {
			t.Errorf("%s = %v, want %v", what, got, want)
			return
		}
	}
}

func isZero(e impl.Expr) bool { return e.Op == 0 && e.N == 0 && len(e.Kids) == 0 }

// cloned shares no memory with e.
func cloned(e impl.Expr) impl.Expr {
	c := impl.Expr{Op: e.Op, N: e.N}
	for _, k := range e.Kids {
		c.Kids = append(c.Kids, cloned(k))
	}
	return c
}
