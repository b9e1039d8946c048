package tests

import (
	"runtime/debug"
	"testing"

	"loop.example/apimigrator/impl"
)

func TestVarsOfTexts(t *testing.T) {
	cases := []struct {
		text  string
		all   []int
		bound []int
	}{
		{"7", nil, nil},
		{"h", []int{7}, nil},
		{"H()", nil, nil},
		{"H(b,C(d,!f),[g?1:a])", []int{0, 1, 3, 5, 6}, nil},
		{"{c=a;1}", []int{0, 2}, []int{2}},
		{"{a=a;a}", []int{0}, []int{0}},
		{"{b=1;2}", []int{1}, []int{1}},
		{"{h=1;{g=2;{h=3;f}}}", []int{5, 6, 7}, []int{6, 7}},
		{"{c={b={a=1;2};3};{d=4;e}}", []int{0, 1, 2, 3, 4}, []int{0, 1, 2, 3}},
		{"(({d=1;2}<{c;b})+!{b=b;a})", []int{0, 1, 2, 3}, []int{1, 3}},
		{"[{f=1;1}?{e=1;1}:{d=1;1}]", []int{3, 4, 5}, []int{3, 4, 5}},
	}
	for _, c := range cases {
		e := exprOf(t, c.text)
		wantInts(t, "AllVars of "+c.text, impl.AllVars(e), c.all...)
		wantInts(t, "BoundVars of "+c.text, impl.BoundVars(e), c.bound...)
	}
}

func TestVarsOfSmallExprs(t *testing.T) {
	for _, e := range append(letExprs(3), smallExprs(2)...) {
		var all, bound []int
		for _, v := range allVars {
			if namesIn(e, impl.OpVar, impl.OpLet)[v] {
				all = append(all, v)
			}
			if namesIn(e, impl.OpLet)[v] {
				bound = append(bound, v)
			}
		}
		wantInts(t, "AllVars of "+textOf(e), impl.AllVars(e), all...)
		wantInts(t, "BoundVars of "+textOf(e), impl.BoundVars(e), bound...)
	}
}

// Whatever else is wrong with a node, its N counts if its Op is the right one
// and the N is a variable.
func TestVarsOfInvalidExprs(t *testing.T) {
	for op := -1; op <= 12; op++ {
		for _, n := range []int{-1, 0, 5, 7, 8, 1 << 40} {
			e := impl.Expr{Op: op, N: n, Kids: []impl.Expr{variable(3), let(8, num(1), variable(-1)), {Op: impl.OpLet, N: 6}}}
			all, bound := []int{3, 6}, []int{6}
			if n >= 0 && n <= 7 && (op == impl.OpVar || op == impl.OpLet) {
				all = merged(all, n)
			}
			if n >= 0 && n <= 7 && op == impl.OpLet {
				bound = merged(bound, n)
			}
			wantInts(t, "AllVars of an invalid expression", impl.AllVars(e), all...)
			wantInts(t, "BoundVars of an invalid expression", impl.BoundVars(e), bound...)
		}
	}
	wantInts(t, "AllVars of the zero value", impl.AllVars(impl.Expr{}))
	wantInts(t, "BoundVars of the zero value", impl.BoundVars(impl.Expr{}))
	for _, e := range endlessExprs() {
		wantInts(t, "AllVars of an endless expression", impl.AllVars(e))
		wantInts(t, "BoundVars of an endless expression", impl.BoundVars(e))
	}
}

// merged puts n, which is not in list, into its place.
func merged(list []int, n int) []int {
	for i, v := range list {
		if n < v {
			return append(append(append([]int{}, list[:i]...), n), list[i:]...)
		}
	}
	return append(append([]int{}, list...), n)
}

func TestVarsOfLargeExprs(t *testing.T) {
	defer debug.SetMaxStack(debug.SetMaxStack(1 << 20))
	e := variable(4)
	for i := range 200000 {
		e = let(i%3, e, num(1))
	}
	wantInts(t, "AllVars", impl.AllVars(e), 0, 1, 2, 4)
	wantInts(t, "BoundVars", impl.BoundVars(e), 0, 1, 2)
	wantInts(t, "AllVars", impl.AllVars(wide(100001)), 7)
	wantInts(t, "BoundVars", impl.BoundVars(wide(100001)))
}

func TestFreshVars(t *testing.T) {
	cases := []struct {
		list []int
		want int
	}{
		{nil, 0},
		{[]int{}, 0},
		{[]int{0}, 1},
		{[]int{1}, 0},
		{[]int{0, 1, 3}, 2},
		{[]int{3, 1, 0}, 2},
		{[]int{1, 0, 1, 0, 0}, 2},
		{[]int{0, 1, 2, 3, 4, 5, 6}, 7},
		{[]int{7, 6, 5, 4, 3, 2, 1}, 0},
		{[]int{8, -1, 100}, 0},
		{[]int{8, 0, -1, 1, 1 << 62, -1 << 63}, 2},
	}
	for _, c := range cases {
		if v, ok := impl.FreshVar(c.list); !ok || v != c.want {
			t.Errorf("FreshVar(%v) = %d, %v, want %d", c.list, v, ok, c.want)
		}
	}
}

// Every set of variables, once in order and once backwards among other numbers.
func TestFreshVarOfEverySet(t *testing.T) {
	for set := range 1 << impl.MaxVars {
		var list, other []int
		want, found := 0, false
		for v := range impl.MaxVars {
			if set>>v&1 == 1 {
				list = append(list, v)
				other = append([]int{v, 8 + v, -1 - v}, other...)
			} else if !found {
				want, found = v, true
			}
		}
		for _, l := range [][]int{list, other} {
			if v, ok := impl.FreshVar(l); ok != found || v != want {
				t.Errorf("FreshVar(%v) = %d, %v, want %d, %v", l, v, ok, want, found)
			}
		}
	}
}

func TestNameListsAreNewMemory(t *testing.T) {
	e := exprOf(t, "{a=b;{c=a;(c+d)}}")
	before := cloned(e)
	overwriteInts(impl.AllVars(e))
	overwriteInts(impl.BoundVars(e))
	wantInts(t, "AllVars", impl.AllVars(e), 0, 1, 2, 3)
	wantInts(t, "BoundVars", impl.BoundVars(e), 0, 2)
	list := append(make([]int, 0, 8), 2, 0, 1)
	impl.FreshVar(list)
	wantInts(t, "the list", list[:5], 2, 0, 1, 0, 0)
	if !sameTree(e, before) {
		t.Errorf("an argument became %q", textOf(e))
	}
}
