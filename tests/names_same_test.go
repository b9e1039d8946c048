package tests

import (
	"math/rand"
	"slices"
	"testing"

	"loop.example/apimigrator/impl"
)

func TestSameNames(t *testing.T) {
	cases := []struct {
		a, b string
		want bool
	}{
		{"1", "1", true},
		{"1", "2", false},
		{"a", "a", true},
		{"a", "b", false},
		{"A()", "A()", true},
		{"A()", "B()", false},
		{"A(1)", "A()", false},
		{"A(1)", "A(1,2)", false},
		{"(1+2)", "(1<2)", false},
		{"(1+2)", "{1;2}", false},
		{"(1+2)", "(2+1)", false},
		{"{1;2}", "{a=1;2}", false},
		{"{a=1;a}", "{b=1;b}", true},
		{"{a=1;a}", "{h=1;h}", true},
		{"{a=1;2}", "{b=1;2}", true},
		{"{a=1;2}", "{b=1;3}", false},
		{"{a=1;2}", "{b=2;2}", false},
		{"{a=1;b}", "{b=1;b}", false},
		{"{b=1;b}", "{a=1;b}", false},
		{"{a=1;a}", "{a=1;b}", false},
		{"{a=1;c}", "{b=1;c}", true},
		{"{a=1;c}", "{b=1;d}", false},
		// The first operand is outside.
		{"{a=a;a}", "{b=a;b}", true},
		{"{a=a;a}", "{b=b;b}", false},
		{"{a=a;1}", "{b=b;1}", false},
		{"{a=1;{a=a;a}}", "{b=1;{c=b;c}}", true},
		{"{a=1;{a=a;a}}", "{b=1;{c=b;b}}", false},
		{"{a=1;{b=a;a}}", "{b=1;{a=b;b}}", true},
		{"{a=1;{b=a;b}}", "{b=1;{a=b;b}}", false},
		// A name that is bound again.
		{"{a=1;{b=2;a}}", "{a=1;{a=2;a}}", false},
		{"{a=1;{b=2;b}}", "{a=1;{a=2;a}}", true},
		{"{a=1;{b=2;(a+b)}}", "{b=1;{a=2;(b+a)}}", true},
		{"{a=1;{b=2;(a+b)}}", "{b=1;{a=2;(a+b)}}", false},
		{"{a=1;{b=2;(a+b)}}", "{c=1;{c=2;(c+c)}}", false},
		{"{a=1;({a=2;a}+a)}", "{b=1;({c=2;c}+b)}", true},
		{"{a=1;({a=2;a}+a)}", "{b=1;({c=2;b}+b)}", false},
		// A name behind its let is free.
		{"({a=1;a}+a)", "({b=1;b}+a)", true},
		{"({a=1;a}+a)", "({b=1;b}+b)", false},
		{"({a=1;a}+{b=2;b})", "({c=1;c}+{c=2;c})", true},
		{"({a=1;b}+{b=2;a})", "({b=1;b}+{a=2;a})", false},
		{"{{a=1;a};b}", "{{b=1;b};b}", true},
		// Three lets within each other.
		{"{a=1;{b=2;{c=3;A(a,b,c)}}}", "{c=1;{a=2;{b=3;A(c,a,b)}}}", true},
		{"{a=1;{b=2;{c=3;A(a,b,c)}}}", "{c=1;{a=2;{b=3;A(c,b,a)}}}", false},
		{"{a=1;{b=2;{c=3;A(a,b,c)}}}", "{a=1;{b=2;{d=3;A(a,b,c)}}}", false},
		{"{a=1;{b=2;{c=3;b}}}", "{a=1;{b=2;{a=3;b}}}", true},
		// Numbers and functions are no names.
		{"{a=1;A(1,a)}", "{b=1;A(0,b)}", false},
		{"{a=1;A(a)}", "{b=1;B(b)}", false},
		{"{a=0;0}", "{b=1;1}", false},
		{"{a=1;0}", "{a=1;a}", false},
		{"!{a=1;a}", "{a=1;!a}", false},
	}
	for _, c := range cases {
		a, b := exprOf(t, c.a), exprOf(t, c.b)
		if impl.SameNames(a, b) != c.want || impl.SameNames(b, a) != c.want {
			t.Errorf("SameNames of %s and %s is not %v", c.a, c.b, c.want)
		}
		if textOf(a) != c.a || textOf(b) != c.b {
			t.Errorf("SameNames changed its arguments to %s and %s", textOf(a), textOf(b))
		}
	}
}

func TestSameNamesOfSmallExprs(t *testing.T) {
	list := append(letExprs(2), smallExprs(2)...)
	for _, x := range letExprs(2) {
		list = append(list, let(0, num(1), x), let(1, num(1), x), let(2, variable(0), x))
	}
	same := 0
	for _, a := range list {
		for _, b := range list {
			want := indexed(a, -1, "") == indexed(b, -1, "")
			if got := impl.SameNames(a, b); got != want {
				t.Errorf("SameNames of %s and %s = %v", textOf(a), textOf(b), got)
			}
			if want && textOf(a) != textOf(b) {
				same++
			}
		}
	}
	if same < 100 {
		t.Errorf("only %d pairs have other names", same)
	}
}

// renamed is e with other names for some of its bound variables, if they fit.
func renamed(r *rand.Rand, e impl.Expr) impl.Expr {
	c := impl.Expr{Op: e.Op, N: e.N}
	for _, kid := range e.Kids {
		c.Kids = append(c.Kids, renamed(r, kid))
	}
	if w := r.Intn(impl.MaxVars); c.Op == impl.OpLet && !namesIn(c.Kids[1], impl.OpVar, impl.OpLet)[w] {
		second, _ := replacedByRule(c.Kids[1], c.N, variable(w))
		return let(w, c.Kids[0], second)
	}
	return c
}

// changed is e with another N of one OpVar or OpLet.
func changed(r *rand.Rand, e impl.Expr) impl.Expr {
	e = cloned(e)
	var places []*impl.Expr
	var visit func(x *impl.Expr)
	visit = func(x *impl.Expr) {
		if x.Op == impl.OpVar || x.Op == impl.OpLet {
			places = append(places, x)
		}
		for i := range x.Kids {
			visit(&x.Kids[i])
		}
	}
	visit(&e)
	if len(places) > 0 {
		x := places[r.Intn(len(places))]
		x.N = (x.N + 1 + r.Intn(impl.MaxVars-1)) % impl.MaxVars
	}
	return e
}

func TestSameNamesOfRandomExprs(t *testing.T) {
	r := rand.New(rand.NewSource(5))
	same, other := 0, 0
	for range 20000 {
		a := randomExpr(r, 2+r.Intn(5), allVars[:3], map[int]int{1: 2})
		if !impl.ExprValid(a, allVars) {
			continue
		}
		if b := renamed(r, a); textOf(a) != textOf(b) {
			same++
			if !impl.SameNames(a, b) || !impl.SameNames(b, a) {
				t.Errorf("SameNames of %s and %s is false", textOf(a), textOf(b))
			}
		}
		b := changed(r, a)
		want := indexed(a, -1, "") == indexed(b, -1, "")
		if !want {
			other++
		}
		if got := impl.SameNames(a, b); got != want {
			t.Errorf("SameNames of %s and %s = %v", textOf(a), textOf(b), got)
		}
	}
	if same < 2000 || other < 2000 {
		t.Errorf("%d pairs with other names, %d of others", same, other)
	}
}

func TestNamesOfInvalidExprs(t *testing.T) {
	for name, e := range invalidExprs() {
		for _, x := range []impl.Expr{e, out(e), let(1, num(1), e), let(1, e, num(1))} {
			if impl.SameNames(x, x) || impl.SameNames(x, num(1)) || impl.SameNames(num(1), x) {
				t.Errorf("SameNames holds: %s", name)
			}
			if impl.UniqueNames(x) {
				t.Errorf("UniqueNames holds: %s", name)
			}
		}
	}
	for _, e := range endlessExprs() {
		if impl.SameNames(e, e) || impl.SameNames(e, num(1)) || impl.SameNames(num(1), e) || impl.UniqueNames(e) {
			t.Error("an endless expression has names")
		}
	}
	for _, e := range []impl.Expr{wide(80), chain(14), let(0, num(1), wide(78)), let(0, num(1), chain(13))} {
		if !impl.SameNames(e, cloned(e)) || !impl.UniqueNames(e) {
			t.Errorf("%s has no names", textOf(e))
		}
	}
	for _, e := range []impl.Expr{let(0, num(1), wide(79)), let(0, num(1), chain(14))} {
		if impl.SameNames(e, cloned(e)) || impl.UniqueNames(e) {
			t.Errorf("%s has names", textOf(e))
		}
	}
}

func TestUniqueNames(t *testing.T) {
	cases := []struct {
		text string
		want bool
	}{
		{"1", true},
		{"a", true},
		{"(a+a)", true},
		{"A(h,h,!h)", true},
		{"{a=1;a}", true},
		{"{a=1;(a+a)}", true},
		{"{a=1;2}", true},
		{"{a=b;a}", true},
		{"{a=1;b}", true},
		{"{a=b;{c=a;c}}", true},
		{"{a=1;{b=2;{c=3;{d=4;{e=5;{f=6;{g=7;h}}}}}}}", true},
		{"({a=1;a}+{b=2;b})", true},
		{"({a=c;a}+{b=c;b})", true},
		// Bound twice: within each other, beside each other, in the first operand.
		{"{a=1;{a=2;3}}", false},
		{"{a=1;{a=a;a}}", false},
		{"({a=1;a}+{a=2;a})", false},
		{"{a={a=1;a};a}", false},
		{"{a={a=1;2};3}", false},
		{"[{a=1;a}?1:{a=2;a}]", false},
		{"{a=1;{b=2;{c=3;{b=4;5}}}}", false},
		// Bound and free: in front of the let, behind it, in its first operand.
		{"(a+{a=1;a})", false},
		{"({a=1;a}+a)", false},
		{"{a=a;a}", false},
		{"{a=a;1}", false},
		{"{{a=1;2};a}", false},
		{"{b={a=1;a};a}", false},
		{"{b=c;{c=1;2}}", false},
		{"{a=1;{b=(a+b);2}}", false},
		{"A(h,1,{h=1;2})", false},
		// Bound in one place, and used in another one that is bound as well.
		{"{a=1;({b=a;b}+a)}", true},
		{"{a=1;({b=a;b}+b)}", false},
	}
	for _, c := range cases {
		e := exprOf(t, c.text)
		if got := impl.UniqueNames(e); got != c.want {
			t.Errorf("UniqueNames(%s) = %v", c.text, got)
		}
		if textOf(e) != c.text {
			t.Errorf("UniqueNames changed %s to %s", c.text, textOf(e))
		}
	}
}

func TestUniqueNamesOfSmallExprs(t *testing.T) {
	lets := func(e impl.Expr) []int {
		var list []int
		var visit func(e impl.Expr)
		visit = func(e impl.Expr) {
			if e.Op == impl.OpLet {
				list = append(list, e.N)
			}
			for _, kid := range e.Kids {
				visit(kid)
			}
		}
		visit(e)
		return list
	}
	for _, e := range append(letExprs(3), smallExprs(2)...) {
		want := true
		names := lets(e)
		for i, n := range names {
			want = want && !slices.Contains(names[:i], n) && !freeIn(e)[n]
		}
		if got := impl.UniqueNames(e); got != want {
			t.Errorf("UniqueNames(%s) = %v", textOf(e), got)
		}
	}
}
