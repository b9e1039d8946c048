package tests

import (
	"testing"

	"loop.example/apimigrator/impl"
)

var allVars = []int{0, 1, 2, 3, 4, 5, 6, 7}

// invalidExprs are no expressions, each for one reason.
func invalidExprs() map[string]impl.Expr {
	one := []impl.Expr{num(1)}
	two := []impl.Expr{num(1), num(2)}
	three := []impl.Expr{num(1), num(2), num(3)}
	four := []impl.Expr{num(1), num(2), num(3), num(4)}
	m := map[string]impl.Expr{
		"zero value":           {},
		"no kind":              {Op: 10},
		"no kind, with Kids":   {Op: 10, Kids: two},
		"negative kind":        {Op: -1},
		"kind 0 with Kids":     {Op: 0, Kids: one},
		"number -1":            num(-1),
		"number 100":           num(100),
		"number with Kids":     {Op: impl.OpNum, N: 1, Kids: one},
		"variable -1":          variable(-1),
		"variable 8":           variable(8),
		"variable with Kids":   {Op: impl.OpVar, N: 1, Kids: one},
		"function -1":          call(-1),
		"function 8":           call(8),
		"4 arguments":          call(0, four...),
		"let of -1":            let(-1, num(1), num(2)),
		"let of 8":             let(8, num(1), num(2)),
		"let with one":         {Op: impl.OpLet, N: 1, Kids: one},
		"let with three":       {Op: impl.OpLet, N: 1, Kids: three},
		"if with two":          {Op: impl.OpIf, Kids: two},
		"if with four":         {Op: impl.OpIf, Kids: four},
		"out without operand":  {Op: impl.OpOut},
		"out with two":         {Op: impl.OpOut, Kids: two},
		"too deep":             chain(impl.MaxDepth + 1),
		"too many nodes":       wide(impl.MaxNodes + 1),
		"far too many nodes":   wide(1001),
		"far too deep":         chain(1000),
		"wide call":            call(0, make([]impl.Expr, 1000)...),
		"variable of a number": add(variable(8), num(1)),
	}
	for op, name := range map[int]string{impl.OpAdd: "add", impl.OpLess: "less", impl.OpSeq: "seq"} {
		m[name+" without operands"] = impl.Expr{Op: op}
		m[name+" with one"] = impl.Expr{Op: op, Kids: one}
		m[name+" with three"] = impl.Expr{Op: op, Kids: three}
		m[name+" with N"] = impl.Expr{Op: op, N: 1, Kids: two}
	}
	m["if with N"] = impl.Expr{Op: impl.OpIf, N: 1, Kids: three}
	m["out with N"] = impl.Expr{Op: impl.OpOut, N: -1, Kids: one}
	return m
}

func TestInvalidExprs(t *testing.T) {
	for name, e := range invalidExprs() {
		wrapped := []impl.Expr{e, out(e), call(0, num(1), num(2), e), choice(num(1), e, num(2)), let(0, e, num(1)), let(0, num(1), e)}
		for _, x := range wrapped {
			if impl.ExprValid(x, allVars) {
				t.Errorf("%s: ExprValid holds", name)
			}
			if text := impl.FormatExpr(x); text != "" {
				t.Errorf("%s: FormatExpr = %q", name, text)
			}
		}
	}
}

func TestValidExprsAtTheLimits(t *testing.T) {
	valid := []impl.Expr{
		num(0), num(impl.MaxNum), variable(0), variable(7), call(0), call(7),
		call(0, num(1), num(2), num(3)), let(0, num(1), num(2)), let(7, num(1), num(2)),
		chain(impl.MaxDepth), wide(impl.MaxNodes),
	}
	for _, e := range valid {
		if !impl.ExprValid(e, allVars) {
			t.Errorf("ExprValid(%q) is false", textOf(e))
		}
	}
}

func TestScopes(t *testing.T) {
	cases := []struct {
		text  string
		scope []int
		want  bool
	}{
		{"1", nil, true},
		{"1", []int{}, true},
		{"a", nil, false},
		{"a", []int{0}, true},
		{"a", []int{1}, false},
		{"a", []int{1, 0}, true},
		{"h", []int{7}, true},
		{"(a+b)", []int{0}, false},
		{"(a+b)", []int{1, 1, 0, 0, 1}, true},
		{"(a+b)", []int{0, 1, 2, 3, 4, 5, 6, 7, 0, 1, 2}, true},
		{"1", []int{8}, false},
		{"1", []int{-1}, false},
		{"1", []int{0, 1, 2, 100}, false},
		{"{a=1;a}", nil, true},
		{"{a=a;a}", nil, false},
		{"{a=a;a}", []int{0}, true},
		{"{a=b;a}", []int{0}, false},
		{"{a=b;a}", []int{1}, true},
		{"{a=1;b}", nil, false},
		{"{a=1;{b=a;(a+b)}}", nil, true},
		{"{a={b=1;b};b}", nil, false},
		{"({a=1;a}+a)", nil, false},
		{"{{a=1;a};a}", nil, false},
		{"{a=1;[a?!a:A(a,{a=a;a},a)]}", nil, true},
		{"{a=1;{a=2;a}}", nil, true},
		{"{b={a=1;a};{a={c=b;c};(a+b)}}", nil, true},
		{"{b={a=1;a};{a={c=b;c};(a+c)}}", nil, false},
	}
	for _, c := range cases {
		e, ok := impl.ParseExpr(c.text)
		if !ok {
			t.Fatalf("ParseExpr(%q) is false", c.text)
		}
		if got := impl.ExprValid(e, c.scope); got != c.want {
			t.Errorf("ExprValid(%q, %v) = %v", c.text, c.scope, got)
		}
	}
}

func TestSame(t *testing.T) {
	list := smallExprs(2)
	for _, a := range list {
		for _, b := range list {
			if got, want := impl.ExprSame(a, cloned(b)), textOf(a) == textOf(b); got != want {
				t.Errorf("ExprSame(%q, %q) = %v", textOf(a), textOf(b), got)
			}
		}
	}
	if !impl.ExprSame(impl.Expr{Op: impl.OpNum, Kids: []impl.Expr{}}, num(0)) {
		t.Error("an empty slice differs from none")
	}
}

func TestSameOfInvalidExprs(t *testing.T) {
	m := invalidExprs()
	for i, a := range m {
		for j, b := range m {
			if got, want := impl.ExprSame(a, cloned(b)), i == j; got != want {
				t.Errorf("ExprSame of %s and %s = %v", i, j, got)
			}
		}
	}
	a, b := add(num(1), call(0, num(1), num(500))), add(num(1), call(0, num(1), num(501)))
	if impl.ExprSame(a, b) || !impl.ExprSame(a, a) {
		t.Error("a difference inside is not seen")
	}
	longer := call(0, num(1), num(2))
	if impl.ExprSame(call(0, num(1)), longer) || impl.ExprSame(longer, call(0, num(1))) || impl.ExprSame(call(0), longer) {
		t.Error("another number of Kids is not seen")
	}
}
