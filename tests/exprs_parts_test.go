package tests

import (
	"runtime/debug"
	"testing"

	"loop.example/apimigrator/impl"
)

func TestPartsOfTexts(t *testing.T) {
	cases := []struct {
		text  string
		size  int
		vars  []int
		calls []int
	}{
		{"0", 1, nil, nil},
		{"h", 1, []int{7}, nil},
		{"A()", 1, nil, []int{0}},
		{"{a=A(b);(a+!a)}", 7, []int{1}, []int{0}},
		{"{a=a;a}", 3, []int{0}, nil},
		{"(a+{a=a;a})", 5, []int{0}, nil},
		{"{a=1;{b=a;(a+b)}}", 7, nil, nil},
		{"({a=1;a}+a)", 5, []int{0}, nil},
		{"{{a=1;a};a}", 5, []int{0}, nil},
		{"[h?g:[f?e:d]]", 7, []int{3, 4, 5, 6, 7}, nil},
		{"H(G(A(),b),A(a),B())", 7, []int{0, 1}, []int{0, 1, 6, 7}},
		{"{c=C();!{d=D(c);[(d<c)?E():{e;F()}]}}", 14, []int{4}, []int{2, 3, 4, 5}},
		{"{A(1);A(A(2))}", 6, nil, []int{0}},
	}
	for _, c := range cases {
		e, ok := impl.ParseExpr(c.text)
		if !ok {
			t.Fatalf("ParseExpr(%q) is false", c.text)
		}
		if n := impl.SizeOf(e); n != c.size {
			t.Errorf("SizeOf(%q) = %d, want %d", c.text, n, c.size)
		}
		wantInts(t, "FreeVars of "+c.text, impl.FreeVars(e), c.vars...)
		wantInts(t, "CallsOf of "+c.text, impl.CallsOf(e), c.calls...)
	}
}

func TestCounts(t *testing.T) {
	cases := []struct {
		text string
		v    int
		want int
	}{
		{"a", 0, 1},
		{"a", 1, 0},
		{"a", -1, 0},
		{"a", 8, 0},
		{"0", 0, 0},
		{"A()", 0, 0},
		{"B(b,1,b)", 1, 2},
		{"{a=a;a}", 0, 1},
		{"{a=(a+a);(a+a)}", 0, 2},
		{"{b=a;a}", 0, 2},
		{"{b=b;a}", 0, 1},
		{"{b=b;b}", 0, 0},
		{"{a=1;{b=a;a}}", 0, 0},
		{"{b=1;{a=a;a}}", 0, 1},
		{"{a;a}", 0, 2},
		{"({a=1;a}+a)", 0, 1},
		{"[a?{a=!a;a}:A(a,a,a)]", 0, 5},
		{"{a={a=a;a};{a=a;a}}", 0, 1},
	}
	for _, c := range cases {
		e, ok := impl.ParseExpr(c.text)
		if !ok {
			t.Fatalf("ParseExpr(%q) is false", c.text)
		}
		if n := impl.CountVar(e, c.v); n != c.want {
			t.Errorf("CountVar(%q, %d) = %d, want %d", c.text, c.v, n, c.want)
		}
	}
}

// A let alone binds, and in the second of its Kids alone.
func TestPartsOfInvalidExprs(t *testing.T) {
	a := variable(0)
	e := impl.Expr{Op: impl.OpLet, N: 0, Kids: []impl.Expr{a, add(a, a), a, out(a)}}
	if n := impl.CountVar(e, 0); n != 3 {
		t.Errorf("CountVar of a let with four Kids = %d", n)
	}
	e = impl.Expr{Op: impl.OpLet, N: 0, Kids: []impl.Expr{a}}
	if n := impl.CountVar(e, 0); n != 1 {
		t.Errorf("CountVar of a let with one of the Kids = %d", n)
	}
	for op := -1; op <= 12; op++ {
		e = impl.Expr{Op: op, N: 0, Kids: []impl.Expr{a, a, call(3)}}
		want := 2
		if op == impl.OpVar {
			want = 3
		} else if op == impl.OpLet {
			want = 1
		}
		if n := impl.CountVar(e, 0); n != want {
			t.Errorf("CountVar with Op %d = %d, want %d", op, n, want)
		}
		if n := impl.SizeOf(e); n != 4 {
			t.Errorf("SizeOf with Op %d = %d", op, n)
		}
		wantInts(t, "FreeVars", impl.FreeVars(e), 0)
		if op == impl.OpCall {
			wantInts(t, "CallsOf", impl.CallsOf(e), 0, 3)
		} else {
			wantInts(t, "CallsOf", impl.CallsOf(e), 3)
		}
	}
	if n := impl.SizeOf(impl.Expr{}); n != 1 {
		t.Errorf("SizeOf of the zero value = %d", n)
	}
}

// What is no variable and no function is counted, but not listed.
func TestPartsWithOtherNumbers(t *testing.T) {
	e := add(add(variable(8), variable(-1)), call(8, call(-1, variable(8)), let(8, variable(8), variable(8))))
	if n := impl.CountVar(e, 8); n != 3 {
		t.Errorf("CountVar of 8 = %d", n)
	}
	if n := impl.CountVar(e, -1); n != 1 {
		t.Errorf("CountVar of -1 = %d", n)
	}
	wantInts(t, "FreeVars", impl.FreeVars(e))
	wantInts(t, "CallsOf", impl.CallsOf(e))
	wantInts(t, "FreeVars", impl.FreeVars(add(e, variable(7))), 7)
	wantInts(t, "CallsOf", impl.CallsOf(add(e, call(7))), 7)
}

// endlessExprs contain themselves: they have no last level.
func endlessExprs() []impl.Expr {
	one := make([]impl.Expr, 1)
	one[0] = out(impl.Expr{Op: impl.OpOut, Kids: one})
	two := make([]impl.Expr, 2)
	two[0], two[1] = variable(0), impl.Expr{Op: impl.OpAdd, Kids: two}
	both := make([]impl.Expr, 2)
	both[0] = impl.Expr{Op: impl.OpLet, Kids: both}
	both[1] = impl.Expr{Op: impl.OpCall, Kids: both}
	far := chain(1000)
	last := far
	for len(last.Kids[0].Kids) > 0 {
		last = last.Kids[0]
	}
	last.Kids[0] = far
	return []impl.Expr{one[0], two[1], both[0], both[1], far, call(0, num(1), far), call(0, far, num(1))}
}

func TestEndlessExprs(t *testing.T) {
	for i, e := range endlessExprs() {
		if impl.ExprValid(e, allVars) || impl.FormatExpr(e) != "" {
			t.Errorf("the endless expression %d is valid", i)
		}
		if impl.ExprSame(e, e) || impl.ExprSame(e, num(1)) || impl.ExprSame(out(num(1)), e) {
			t.Errorf("the endless expression %d is the same", i)
		}
		if impl.SizeOf(e) != 0 || impl.CountVar(e, 0) != 0 || len(impl.FreeVars(e)) != 0 || len(impl.CallsOf(e)) != 0 {
			t.Errorf("the endless expression %d has parts", i)
		}
	}
}

// One slice may stand in an expression many times without an end being missing.
func TestSharedPartsCountEachTime(t *testing.T) {
	e := add(variable(0), call(3))
	for range 10 {
		e = add(e, e)
	}
	if n := impl.SizeOf(e); n != 4*1024-1 {
		t.Errorf("SizeOf = %d", n)
	}
	if n := impl.CountVar(e, 0); n != 1024 {
		t.Errorf("CountVar = %d", n)
	}
	wantInts(t, "FreeVars", impl.FreeVars(e), 0)
	wantInts(t, "CallsOf", impl.CallsOf(e), 3)
	if !impl.ExprSame(e, cloned(e)) || impl.ExprSame(e, add(e, e)) {
		t.Error("an expression with shared parts is not compared")
	}
}

// With a small stack, calls within each other would not get to the end of it.
func TestPartsOfLargeExprs(t *testing.T) {
	defer debug.SetMaxStack(debug.SetMaxStack(1 << 20))
	const depth = 200000
	e := chain(depth)
	if n := impl.SizeOf(e); n != depth {
		t.Errorf("SizeOf = %d", n)
	}
	wantInts(t, "FreeVars", impl.FreeVars(e))
	wantInts(t, "CallsOf", impl.CallsOf(e))
	if !impl.ExprSame(e, e) || impl.ExprSame(e, out(e)) || impl.ExprValid(e, nil) || impl.FormatExpr(e) != "" {
		t.Error("a deep expression is not compared or refused")
	}
	if n := impl.CountVar(wide(100001), 7); n != 50001 {
		t.Errorf("CountVar = %d", n)
	}
	if n := impl.SizeOf(call(0, make([]impl.Expr, 1000000)...)); n != 1000001 {
		t.Errorf("SizeOf = %d", n)
	}
}

func TestArgumentsStay(t *testing.T) {
	e, _ := impl.ParseExpr("{a=A(b);[(a<3)?{!a;B(a,7)}:C()]}")
	before := cloned(e)
	scope := append(make([]int, 0, 8), 1, 2)
	impl.ExprValid(e, scope)
	impl.ExprSame(e, e)
	impl.FormatExpr(e)
	impl.SizeOf(e)
	impl.CountVar(e, 0)
	first, calls := impl.FreeVars(e), impl.CallsOf(e)
	first[0], calls[0] = 77, 77
	wantInts(t, "FreeVars", impl.FreeVars(e), 1)
	wantInts(t, "CallsOf", impl.CallsOf(e), 0, 1, 2)
	wantInts(t, "scope", scope[:4], 1, 2, 0, 0)
	if !sameTree(e, before) {
		t.Errorf("an argument became %q", textOf(e))
	}
}
