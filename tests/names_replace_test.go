package tests

import (
	"math/rand"
	"testing"

	"loop.example/apimigrator/impl"
)

func TestReplacedVars(t *testing.T) {
	cases := []struct {
		e    string
		v    int
		x    string
		want string
	}{
		// Nothing is bound.
		{"a", 0, "7", "7"},
		{"a", 0, "a", "a"},
		{"a", 0, "(a+1)", "(a+1)"},
		{"a", 1, "7", "a"},
		{"b", 0, "7", "b"},
		{"5", 0, "7", "5"},
		{"h", 7, "!H()", "!H()"},
		{"A()", 0, "7", "A()"},
		{"A(a,b,a)", 0, "(b<2)", "A((b<2),b,(b<2))"},
		{"[a?!a:{a;(a<b)}]", 0, "b", "[b?!b:{b;(b<b)}]"},
		// A let binds the variable itself.
		{"{a=a;a}", 0, "7", "{a=7;a}"},
		{"{a=a;(a+b)}", 0, "b", "{a=b;(a+b)}"},
		{"{a=(a+a);a}", 0, "(a+1)", "{a=((a+1)+(a+1));a}"},
		{"{a=1;a}", 0, "7", "{a=1;a}"},
		{"{a={a=a;a};{a=a;a}}", 0, "7", "{a={a=7;a};{a=a;a}}"},
		{"({a=a;a}+a)", 0, "7", "({a=7;a}+7)"},
		{"{b=a;{a=(a+b);(a+b)}}", 0, "7", "{b=7;{a=(7+b);(a+b)}}"},
		// A bound name does not capture.
		{"{b=2;(a+b)}", 0, "c", "{b=2;(c+b)}"},
		{"{b=a;b}", 0, "c", "{b=c;b}"},
		{"{b=2;{c=3;(a+(b+c))}}", 0, "d", "{b=2;{c=3;(d+(b+c))}}"},
		{"{b=2;a}", 0, "{b=1;b}", "{b=2;{b=1;b}}"},
		// A bound name would capture, but there is nothing to replace.
		{"{b=a;b}", 0, "b", "{b=b;b}"},
		{"{b=a;(b+c)}", 0, "(b+1)", "{b=(b+1);(b+c)}"},
		{"{b=2;{a=b;a}}", 0, "b", "{b=2;{a=b;a}}"},
		{"{b=2;{a=1;(a+b)}}", 0, "b", "{b=2;{a=1;(a+b)}}"},
		// A bound name would capture.
		{"{b=2;(a+b)}", 0, "(b+1)", "{c=2;((b+1)+c)}"},
		{"{b=2;a}", 0, "b", "{c=2;b}"},
		{"{a=2;(a+b)}", 1, "a", "{c=2;(c+a)}"},
		{"{b=b;(a+b)}", 0, "b", "{c=b;(b+c)}"},
		{"{b=a;(a+b)}", 0, "b", "{c=b;(b+c)}"},
		{"{h=1;(h+g)}", 6, "h", "{a=1;(a+h)}"},
		{"{b=2;(a+b)}", 0, "{b=b;b}", "{c=2;({b=b;b}+c)}"},
		{"({b=1;(a+b)}<{b=2;(b+c)})", 0, "b", "({c=1;(b+c)}<{b=2;(b+c)})"},
		{"{b={b=1;(a+b)};(a+b)}", 0, "b", "{c={c=1;(b+c)};(b+c)}"},
		{"{b=2;!A(b,a,[b?b:a])}", 0, "b", "{c=2;!A(c,b,[c?c:b])}"},
		// The fresh name is free neither in x nor in the second operand, and not bound there.
		{"{b=2;(a+b)}", 0, "(b+c)", "{d=2;((b+c)+d)}"},
		{"{b=2;(a+c)}", 0, "b", "{d=2;(b+c)}"},
		{"{b=2;(a+{c=1;b})}", 0, "b", "{d=2;(b+{c=1;d})}"},
		{"{b=2;(a+{c=1;{d=c;(b+d)}})}", 0, "(b+e)", "{f=2;((b+e)+{c=1;{d=c;(f+d)}})}"},
		{"{b=2;(d+b)}", 3, "b", "{a=2;(b+a)}"},
		{"{b=c;(a+b)}", 0, "b", "{c=c;(b+c)}"},
		{"{b=2;(a+b)}", 0, "{c=1;b}", "{c=2;({c=1;b}+c)}"},
		{"{b=2;(e+b)}", 4, "(b+a)", "{c=2;((b+a)+c)}"},
		// The variable itself is not taken as the fresh one, although it goes.
		{"{b=2;a}", 0, "(b+{a=1;a})", "{c=2;(b+{a=1;a})}"},
		{"{a=2;(a+b)}", 1, "(a+b)", "{c=2;(c+(a+b))}"},
		// What is bound under a let that is renamed.
		{"{b=2;{c=b;(a+c)}}", 0, "(b+c)", "{d=2;{d=d;((b+c)+d)}}"},
		{"{b=2;{b=b;(a+b)}}", 0, "b", "{c=2;{c=c;(b+c)}}"},
		{"{b=2;{b=b;(b+c)}}", 2, "b", "{a=2;{a=a;(a+b)}}"},
		{"{b=2;(a+{b=b;b})}", 0, "b", "{c=2;(b+{b=c;b})}"},
		{"{b=2;{a=(a+b);(a+b)}}", 0, "b", "{c=2;{a=(b+c);(a+c)}}"},
		{"{b=2;{c=3;(a+(b+c))}}", 0, "(b+c)", "{d=2;{e=3;((b+c)+(d+e))}}"},
		{"{b=1;{c=2;{d=3;(a+(b+(c+d)))}}}", 0, "(b+(c+d))", "{e=1;{f=2;{g=3;((b+(c+d))+(e+(f+g)))}}}"},
	}
	for _, c := range cases {
		e, ok := impl.SubstVar(exprOf(t, c.e), c.v, exprOf(t, c.x))
		wantExpr(t, "SubstVar of "+c.e+" with "+c.x, e, ok, c.want)
	}
}

func TestReplacedVarsWithAllVarsInUse(t *testing.T) {
	cases := []struct {
		e    string
		v    int
		x    string
		want string // empty if there is none
	}{
		// With b to g in x, and a in the second operand of the let, only h is left.
		{"{b=1;(a+b)}", 0, "A(A(b,c,d),A(e,f,g))", "{h=1;(A(A(b,c,d),A(e,f,g))+h)}"},
		{"{b=1;(a+b)}", 0, "A(A(b,c,d),A(e,f,g),h)", ""},
		{"{b=1;a}", 0, "A(A(b,c,d),A(e,f,g),h)", ""},
		{"{b=1;a}", 0, "A(A(b,c,d),A(e,f,g),a)", "{h=1;A(A(b,c,d),A(e,f,g),a)}"},
		{"{a=1;b}", 1, "A(A(a,c,d),A(e,f,g),h)", ""},
		// The same, but the names stand in the second operand of the let.
		{"{b=1;A(A(a,b,c),A(d,e,f),g)}", 0, "b", "{h=1;A(A(b,h,c),A(d,e,f),g)}"},
		{"{b=1;A(A(a,b,c),A(d,e,f),A(g,h))}", 0, "b", ""},
		{"{b=1;A(A(a,b,c),A(d,e,f),A(g,{h=1;2}))}", 0, "b", ""},
		{"{b=A(g,h);A(A(a,b,c),A(d,e,f))}", 0, "b", "{g=A(g,h);A(A(b,g,c),A(d,e,f))}"},
		// Some in each of them.
		{"{b=1;A(A(a,b,c),d)}", 0, "A(A(b,e),A(f,g))", "{h=1;A(A(A(A(b,e),A(f,g)),h,c),d)}"},
		{"{b=1;A(A(a,b,c),d)}", 0, "A(A(b,e),A(f,g,h))", ""},
		{"{b=1;A(A(a,b,c),{d=1;2})}", 0, "A(A(b,e),A(f,g,h))", ""},
		// No name is needed.
		{"{b=1;A(A(c,d,e),A(f,g,h),A(b))}", 0, "A(A(b,c,d),A(e,f,g),h)", "{b=1;A(A(c,d,e),A(f,g,h),A(b))}"},
		{"{b=a;A(A(c,d,e),A(f,g,h),A(b))}", 0, "b", "{b=b;A(A(c,d,e),A(f,g,h),A(b))}"},
		{"{a=a;A(A(c,d,e),A(f,g,h),A(a,b))}", 0, "b", "{a=b;A(A(c,d,e),A(f,g,h),A(a,b))}"},
		{"{b=1;A(A(a,b,c),A(d,e,f),A(g,h))}", 0, "7", "{b=1;A(A(7,b,c),A(d,e,f),A(g,h))}"},
		{"{b=1;A(A(a,b,c),A(d,e,f),A(g,h))}", 0, "{b=1;b}", "{b=1;A(A({b=1;b},b,c),A(d,e,f),A(g,h))}"},
		// None is left inside, or only outside.
		{"(a+!{b=1;(a+b)})", 0, "A(A(b,c,d),A(e,f,g),h)", ""},
		{"{c={b=1;(a+b)};c}", 0, "A(A(b,c,d),A(e,f,g),h)", ""},
		{"{a={b=1;(a+b)};c}", 0, "A(A(b,c,d),A(e,f,g),h)", ""},
		{"{b=1;{c=2;(a+(b+c))}}", 0, "A(A(b,c,d),A(e,f,g))", ""},
		{"{b=1;{c=2;(a+c)}}", 0, "A(A(b,c,d),A(e,f,g))", "{h=1;{h=2;(A(A(b,c,d),A(e,f,g))+h)}}"},
	}
	for _, c := range cases {
		e, ok := impl.SubstVar(exprOf(t, c.e), c.v, exprOf(t, c.x))
		what := "SubstVar of " + c.e + " with " + c.x
		if c.want == "" {
			wantNoExpr(t, what, e, ok)
		} else {
			wantExpr(t, what, e, ok, c.want)
		}
	}
}

// checkReplaced compares with the rule of the document, and, without looking at
// what names are chosen, with a text in which nothing can be captured.
func checkReplaced(t *testing.T, e impl.Expr, v int, x impl.Expr) bool {
	t.Helper()
	got, ok := impl.SubstVar(e, v, x)
	want, found := replacedByRule(e, v, x)
	if !found || !impl.ExprValid(want, allVars) {
		wantNoExpr(t, "SubstVar of "+textOf(e)+" with "+textOf(x), got, ok)
		return false
	}
	if !ok || !sameTree(got, want) {
		t.Errorf("SubstVar(%s, %d, %s) = %v, %v, want %s", textOf(e), v, textOf(x), got, ok, textOf(want))
		return false
	}
	if indexed(got, -1, "") != indexed(e, v, indexed(x, -1, "")) {
		t.Errorf("SubstVar(%s, %d, %s) = %s captures", textOf(e), v, textOf(x), textOf(got))
	}
	return true
}

// letExprs are the small expressions of lets, sums and variables.
func letExprs(levels int) []impl.Expr {
	list := []impl.Expr{variable(0), variable(1), variable(2)}
	if levels == 1 {
		return list
	}
	kids := letExprs(levels - 1)
	for _, x := range kids {
		for _, y := range kids {
			list = append(list, add(x, y), let(0, x, y), let(1, x, y), let(2, x, y))
		}
	}
	return list
}

func TestReplacedVarsOfSmallExprs(t *testing.T) {
	for _, e := range letExprs(3) {
		for v := range 4 {
			for _, x := range []impl.Expr{num(3), variable(0), variable(1), add(variable(1), variable(2)), let(1, variable(0), variable(1))} {
				if !checkReplaced(t, e, v, x) {
					t.Fatalf("there is no SubstVar(%s, %d, %s)", textOf(e), v, textOf(x))
				}
			}
		}
	}
}

func TestReplacedVarsOfRandomExprs(t *testing.T) {
	r := rand.New(rand.NewSource(4))
	arities := map[int]int{0: 0, 3: 2, 5: 3}
	replaced, none := 0, 0
	for range 40000 {
		e := randomExpr(r, 2+r.Intn(5), allVars, arities)
		x := randomExpr(r, 1+r.Intn(5), allVars[:1+r.Intn(8)], arities)
		v := r.Intn(impl.MaxVars)
		if !impl.ExprValid(e, allVars) || !impl.ExprValid(x, allVars) {
			continue
		}
		if checkReplaced(t, e, v, x) {
			replaced++
		} else {
			none++
		}
	}
	if replaced < 10000 || none < 300 {
		t.Errorf("%d replaced, %d not", replaced, none)
	}
}

func TestReplacedVarsAtTheLimits(t *testing.T) {
	cases := []struct {
		what string
		e, x impl.Expr
		ok   bool
	}{
		// Of the 39 nodes of wide(39), 20 are the variable 7.
		{"79 nodes", wide(39), add(num(1), num(2)), true},
		{"80 nodes", out(wide(39)), call(0, num(1), num(2)), true},
		{"81 nodes", out(out(wide(39))), call(0, num(1), num(2)), false},
		{"100 nodes", wide(39), call(0, num(1), num(2), num(3)), false},
		{"as many nodes as possible", wide(79), wide(80), false},
		{"80 nodes of x", variable(7), wide(80), true},
		{"81 nodes with x", out(variable(7)), wide(80), false},
		{"80 nodes without the variable", wide(80), num(1), true},
		{"a depth of 14", deep(13), out(num(1)), true},
		{"a depth of 15", deep(14), out(num(1)), false},
		{"a depth of 14 by x", deep(2), chain(13), true},
		{"a depth of 15 by x", deep(2), chain(14), false},
		{"a depth of 14 as it is", deep(14), num(1), true},
		{"a depth of 14 without the variable", chain(14), chain(14), true},
		{"a depth of 27", deep(14), chain(14), false},
		{"a depth of 15 in a let", let(0, num(1), deep(13)), out(num(1)), false},
		{"a depth of 15 in a let with a new name", let(0, num(1), deep(13)), out(variable(0)), false},
		{"a depth of 14 in a let with a new name", let(0, num(1), deep(12)), out(variable(0)), true},
	}
	for _, c := range cases {
		got, ok := impl.SubstVar(c.e, 7, c.x)
		if ok != c.ok {
			t.Errorf("%s: SubstVar is %v", c.what, ok)
		}
		if !ok {
			wantNoExpr(t, c.what, got, ok)
		}
		checkReplaced(t, c.e, 7, c.x)
	}
}

// deep has the given depth, and the variable 7 at the last level.
func deep(depth int) impl.Expr {
	e := variable(7)
	for range depth - 1 {
		e = out(e)
	}
	return e
}

func TestReplacedVarsOfInvalidArguments(t *testing.T) {
	a, b := variable(0), variable(1)
	invalid := invalidExprs()
	for name, e := range invalid {
		for _, x := range []impl.Expr{e, out(e), let(1, num(1), e), let(1, e, num(1))} {
			for what, pair := range map[string][2]impl.Expr{
				"in": {x, num(1)}, "by": {a, x}, "by, without the variable": {b, x}, "both": {x, x},
			} {
				got, ok := impl.SubstVar(pair[0], 0, pair[1])
				wantNoExpr(t, "SubstVar "+what+": "+name, got, ok)
			}
		}
	}
	for _, e := range endlessExprs() {
		got, ok := impl.SubstVar(e, 0, num(1))
		wantNoExpr(t, "SubstVar in an endless expression", got, ok)
		got, ok = impl.SubstVar(b, 0, e)
		wantNoExpr(t, "SubstVar by an endless expression", got, ok)
	}
	for _, v := range []int{-1, 8, 9, -1 << 63, 1<<63 - 1} {
		for _, e := range []impl.Expr{num(1), a, let(7, a, b)} {
			got, ok := impl.SubstVar(e, v, num(2))
			wantNoExpr(t, "SubstVar of no variable", got, ok)
		}
	}
}

func TestRenamedBounds(t *testing.T) {
	cases := []struct {
		e    string
		w    int
		want string // empty if there is none
	}{
		{"{a=1;a}", 1, "{b=1;b}"},
		{"{a=1;a}", 7, "{h=1;h}"},
		{"{h=1;h}", 0, "{a=1;a}"},
		{"{a=1;2}", 1, "{b=1;2}"},
		{"{a=1;2}", 0, "{a=1;2}"},
		{"{a=a;2}", 0, "{a=a;2}"},
		{"{a=a;a}", 1, "{b=a;b}"},
		{"{a=b;a}", 1, "{b=b;b}"},
		{"{a={b=a;b};a}", 1, "{b={b=a;b};b}"},
		{"{a=a;(a+{a=1;a})}", 2, "{c=a;(c+{a=1;a})}"},
		{"{a=1;{a=a;a}}", 1, "{b=1;{a=b;a}}"},
		{"{a=1;{b=a;(a+b)}}", 2, "{c=1;{b=c;(c+b)}}"},
		{"{a=1;A(a,[a?!a:{a;c}])}", 1, "{b=1;A(b,[b?!b:{b;c}])}"},
		{"{a=1;{a=2;3}}", 1, "{b=1;{a=2;3}}"},
		{"{a=1;A(A(a,c,d),A(e,f,g),h)}", 1, "{b=1;A(A(b,c,d),A(e,f,g),h)}"},
		// The name stands in the second operand.
		{"{a=1;a}", 0, ""},
		{"{a=1;b}", 1, ""},
		{"{a=1;(a+b)}", 1, ""},
		{"{a=1;{b=2;a}}", 1, ""},
		{"{a=1;{b=2;b}}", 1, ""},
		{"{a=1;!{c={b=2;3};a}}", 1, ""},
		{"{a=1;{a=2;3}}", 0, ""},
		{"{a=1;A(A(a,c,d),A(e,f,g),h)}", 7, ""},
		// There is no let at the root.
		{"a", 1, ""},
		{"1", 1, ""},
		{"!{a=1;a}", 1, ""},
		{"{{a=1;a};a}", 1, ""},
		{"(a+a)", 1, ""},
		{"A({a=1;a},a)", 1, ""},
	}
	for _, c := range cases {
		e, ok := impl.RenameBound(exprOf(t, c.e), c.w)
		if c.want == "" {
			wantNoExpr(t, "RenameBound of "+c.e, e, ok)
		} else {
			wantExpr(t, "RenameBound of "+c.e, e, ok, c.want)
		}
	}
}

func TestRenamedBoundsOfSmallExprs(t *testing.T) {
	for _, e := range letExprs(3) {
		for w := -2; w <= 10; w++ {
			got, ok := impl.RenameBound(e, w)
			if e.Op != impl.OpLet || w < 0 || w > 7 || namesIn(e.Kids[1], impl.OpVar, impl.OpLet)[w] {
				wantNoExpr(t, "RenameBound of "+textOf(e), got, ok)
				continue
			}
			second, _ := replacedByRule(e.Kids[1], e.N, variable(w))
			wantExpr(t, "RenameBound of "+textOf(e), got, ok, textOf(let(w, e.Kids[0], second)))
			if indexed(got, -1, "") != indexed(e, -1, "") || !impl.SameNames(got, e) {
				t.Errorf("RenameBound(%s, %d) = %s", textOf(e), w, textOf(got))
			}
		}
	}
}

func TestRenamedBoundsOfInvalidArguments(t *testing.T) {
	for name, e := range invalidExprs() {
		for _, x := range []impl.Expr{e, let(1, num(1), e), let(1, e, num(1))} {
			got, ok := impl.RenameBound(x, 0)
			wantNoExpr(t, "RenameBound: "+name, got, ok)
		}
	}
	for _, e := range endlessExprs() {
		got, ok := impl.RenameBound(e, 1)
		wantNoExpr(t, "RenameBound of an endless expression", got, ok)
	}
	for _, w := range []int{-1, 8, 9, -1 << 63, 1<<63 - 1} {
		got, ok := impl.RenameBound(let(0, num(1), variable(0)), w)
		wantNoExpr(t, "RenameBound to no variable", got, ok)
	}
	// At the limits, and behind them.
	if got, ok := impl.RenameBound(let(0, num(1), wide(78)), 1); !ok || impl.SizeOf(got) != 80 {
		t.Error("there is no RenameBound with 80 nodes")
	}
	got, ok := impl.RenameBound(let(0, num(1), wide(79)), 1)
	wantNoExpr(t, "RenameBound with 81 nodes", got, ok)
	if got, ok := impl.RenameBound(let(0, num(1), chain(13)), 1); !ok || got.N != 1 {
		t.Error("there is no RenameBound with a depth of 14")
	}
	got, ok = impl.RenameBound(let(0, num(1), chain(14)), 1)
	wantNoExpr(t, "RenameBound with a depth of 15", got, ok)
}

// What is replaced several times is new memory each time, and so is the rest.
func TestReplacedExprsAreNewMemory(t *testing.T) {
	texts := []string{"A(a,(a+1),!a)", "{b=(1+2);(a+(b+3))}", "{a=a;(a+(1+2))}", "{c=!a;(c<(b+(4+5)))}", "!(1+2)", "{b=2;{c=b;(a+(c+1))}}"}
	for _, text := range texts {
		for _, by := range []string{"(b+(1+2))", "(c+1)", "A((b+1),c)"} {
			e, x := exprOf(t, text), exprOf(t, by)
			got, ok := impl.SubstVar(e, 0, x)
			want := cloned(got)
			if !ok || textOf(e) != text || textOf(x) != by {
				t.Fatalf("SubstVar is %v, and the arguments are %s and %s", ok, textOf(e), textOf(x))
			}
			overwrite(e)
			overwrite(x)
			if !sameTree(got, want) {
				t.Errorf("with changed arguments, SubstVar of %s and %s became %s", text, by, textOf(want))
			}
			checkOwnMemory(t, got)
		}
	}
	const text = "{a=(1+2);(a+{b=(3+4);!(a+b)})}"
	e := exprOf(t, text)
	got, ok := impl.RenameBound(e, 2)
	if !ok || textOf(e) != text {
		t.Fatalf("RenameBound is %v, and the argument is %s", ok, textOf(e))
	}
	overwrite(e)
	wantExpr(t, "RenameBound with a changed argument", got, ok, "{c=(1+2);(c+{b=(3+4);!(c+b)})}")
	checkOwnMemory(t, got)
}

// checkOwnMemory reports slices of Kids that share memory within e.
func checkOwnMemory(t *testing.T, e impl.Expr) {
	t.Helper()
	text := textOf(e)
	seen := map[*impl.Expr]bool{}
	var visit func(e impl.Expr)
	visit = func(e impl.Expr) {
		all := e.Kids[:cap(e.Kids)]
		for i := range all {
			if seen[&all[i]] {
				t.Errorf("in %s, some memory is shared", text)
			}
			seen[&all[i]] = true
		}
		for _, kid := range e.Kids {
			visit(kid)
		}
	}
	visit(e)
}
