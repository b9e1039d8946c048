package tests

import (
	"testing"

	"loop.example/apimigrator/impl"
)

func TestInlineFuns(t *testing.T) {
	lib := libraryOf(t, inlineLibrary)
	wantFun(t, lib, 1, [][2]string{
		{"B(1)", "{b=1;A(b,1)}"}, {"(B(1)+B(2))", "({b=1;A(b,1)}+{b=2;A(b,1)})"}, {"!B(b)", "!{c=b;A(c,1)}"}, {"{B(1);B(a)}", "{{b=1;A(b,1)};{b=a;A(b,1)}}"},
		{"[B(1)?B(2):(B(3)<4)]", "[{b=1;A(b,1)}?{b=2;A(b,1)}:({b=3;A(b,1)}<4)]"}, {"{b=B(b);B(b)}", "{b={c=b;A(c,1)};{c=b;A(c,1)}}"},
		{"{a=!1;{b=B(a);(a+b)}}", "{a=!1;{b={b=a;A(b,1)};(a+b)}}"},
		// There is none, or only within other functions.
		{"1", "1"}, {"(a+!b)", "(a+!b)"}, {"C(1)", "C(1)"}, {"{a=A(1,2);E(a)}", "{a=A(1,2);E(a)}"},
		// A call in an argument of a call.
		{"B(B(1))", "{c={b=1;A(b,1)};A(c,1)}"}, {"B(B(B(1)))", "{d={c={b=1;A(b,1)};A(c,1)};A(d,1)}"}, {"B((b+B(b)))", "{d=(b+{c=b;A(c,1)});A(d,1)}"},
		{"C(B(1))", "C({b=1;A(b,1)})"}, {"A(B(1),B(2))", "A({b=1;A(b,1)},{b=2;A(b,1)})"}, {"B(A(B(1),B(B(2))))", "{d=A({b=1;A(b,1)},{c={b=2;A(b,1)};A(c,1)});A(d,1)}"},
		{"B({b=B(1);b})", "{c={b={b=1;A(b,1)};b};A(c,1)}"}, {"B(!B(!1))", "{c=!{b=!1;A(b,1)};A(c,1)}"},
		// Other calls in the arguments, or around it.
		{"B(C(1))", "{b=C(1);A(b,1)}"}, {"C(!B(G()))", "C(!{b=G();A(b,1)})"},
	})
	wantFun(t, lib, 2, [][2]string{
		{"C(C(1))", "{c={b=1;B(!b)};B(!c)}"}, {"B(C(1))", "B({b=1;B(!b)})"}, {"C(B(1))", "{b=B(1);B(!b)}"}, {"(B(1)+B(2))", "(B(1)+B(2))"},
	})
	wantFun(t, lib, 3, [][2]string{
		{"D(c,d)", "{e=c;{f=d;{c=A(e,e);(c+f)}}}"}, {"{c=1;D(c,c)}", "{c=1;{d=c;{e=c;{c=A(d,d);(c+e)}}}}"},
		{"D(D(1,2),3)", "{f={d=1;{e=2;{c=A(d,d);(c+e)}}};{g=3;{c=A(f,f);(c+g)}}}"},
		{"D(1,D(2,3))", "{f=1;{g={d=2;{e=3;{c=A(d,d);(c+e)}}};{c=A(f,f);(c+g)}}}"},
		{"{d=D(1,2);{e=d;(d+e)}}", "{d={d=1;{e=2;{c=A(d,d);(c+e)}}};{e=d;(d+e)}}"},
		// No fresh variables are left for the call around the others.
		{"D(D(D(1,2),3),4)", ""}, {"(1+D(D(D(a,b),c),d))", ""}, {"D(D(1,2),{h=g;2})", ""}, {"D(D(1,2),{h=1;2})", "{f={d=1;{e=2;{c=A(d,d);(c+e)}}};{g={h=1;2};{c=A(f,f);(c+g)}}}"}, {"D({h=3;1},{g=2;f})", "{d={h=3;1};{e={g=2;f};{c=A(d,d);(c+e)}}}"},
		{"D((d+e),(f+g))", ""}, {"[1?2:D((d+e),(f+g))]", ""}, {"{D((d+e),(f+g));D(1,2)}", ""},
	})
	wantFun(t, lib, 4, [][2]string{
		// The call that is in the Body stays.
		{"E(1)", "{b=1;E(b)}"}, {"E(E(1))", "{c={b=1;E(b)};E(c)}"}, {"(E(1)+E(2))", "({b=1;E(b)}+{b=2;E(b)})"},
	})
	wantFun(t, lib, 6, [][2]string{{"G()", "!7"}, {"(G()+B(G()))", "(!7+B(!7))"}, {"{a=G();G()}", "{a=!7;!7}"}})
	wantFun(t, lib, 7, [][2]string{
		{"H(1,H(2,3,4),5)", ""}, {"{h=!1;H(h,h,h)}", "{h=!1;{d=h;{e=h;{f=h;{!f;{b=d;(d+b)}}}}}}"},
	})
	for _, name := range []int{-1, 8, 99, -1 << 63} {
		got, ok := impl.InlineFun(lib, exprOf(t, "B(1)"), name)
		wantNoExpr(t, "InlineFun of no function", got, ok)
	}
}

// A function that is not called has to be one of the library, too.
func TestInlineFunsThatAreNotThere(t *testing.T) {
	lib := libraryOf(t, "A1=a\nC0=1\n")
	for name := -2; name < 10; name++ {
		for _, text := range []string{"1", "A(2)", "{b=!a;A(b)}"} {
			got, ok := impl.InlineFun(lib, exprOf(t, text), name)
			switch name {
			case 0:
				if !ok {
					t.Errorf("InlineFun of A in %s is false", text)
				}
			case 2:
				wantExpr(t, "InlineFun of C", got, ok, text)
			default:
				wantNoExpr(t, "InlineFun of no function", got, ok)
			}
			got, ok = impl.InlineFun(nil, num(1), name)
			wantNoExpr(t, "InlineFun without functions", got, ok)
		}
	}
}

// within puts e under levels of OpOut.
func within(levels int, e impl.Expr) impl.Expr {
	for range levels {
		e = out(e)
	}
	return e
}

func TestInlineFunsAtTheDepthLimit(t *testing.T) {
	one := func(depth int) []impl.Def { return libraryWith(1, chain(depth)) }
	two := func(depth int) []impl.Def { return libraryWith(2, chain(depth)) }
	nest := func(times int, x impl.Expr) impl.Expr {
		for range times {
			x = call(0, x)
		}
		return x
	}
	for _, c := range []struct {
		lib  []impl.Def
		e    impl.Expr
		want bool
	}{
		// The place of the call counts.
		{one(9), within(4, call(0, num(1))), true},
		{one(9), within(5, call(0, num(1))), false},
		{two(9), within(3, call(0, num(1), num(2))), true},
		{two(9), within(4, call(0, num(1), num(2))), false},
		{one(9), choice(num(1), within(3, call(0, num(1))), num(2)), true},
		{one(9), choice(num(1), within(4, call(0, num(1))), num(2)), false},
		{one(9), choice(num(1), call(0, num(1)), within(4, call(0, num(1)))), false},
		{one(9), let(0, num(1), within(4, call(0, num(1)))), false},
		{libraryWith(0, chain(9)), within(5, call(0)), true},
		{libraryWith(0, chain(9)), within(6, call(0)), false},
		// An argument becomes deeper.
		{one(1), within(12, call(0, num(1))), true},
		{two(1), within(11, call(0, num(1), num(2))), true},
		{two(1), within(12, call(0, num(1), num(2))), false},
		{two(1), call(0, chain(13), num(1)), true},
		{two(1), call(0, num(1), chain(13)), false},
		{libraryWith(3, num(1)), within(2, call(0, num(1), num(2), chain(9))), true},
		{libraryWith(3, num(1)), within(3, call(0, num(1), num(2), chain(9))), false},
		// Calls in arguments.
		{one(9), nest(4, num(1)), true},
		{one(9), nest(5, num(1)), true},
		{one(9), nest(6, num(1)), false},
		{one(9), call(0, within(3, call(0, num(1)))), true},
		{one(9), call(0, within(4, call(0, num(1)))), false},
		{two(1), call(0, num(1), call(0, num(1), chain(9))), true},
		{two(1), call(0, num(1), call(0, num(1), chain(10))), true},
		{two(1), call(0, num(1), call(0, num(1), chain(11))), false},
		{two(6), call(0, num(1), within(4, call(0, num(1), num(2)))), true},
		{two(6), call(0, num(1), within(5, call(0, num(1), num(2)))), false},
		{two(6), call(0, within(5, call(0, num(1), num(2))), num(1)), true},
		{two(6), call(0, within(6, call(0, num(1), num(2))), num(1)), false},
	} {
		checkLimit(t, c.lib, c.e, c.want)
	}
}

// checkLimit inlines A, and compares the result with the rules.
func checkLimit(t *testing.T, lib []impl.Def, e impl.Expr, want bool) {
	t.Helper()
	got, ok := impl.InlineFun(lib, e, 0)
	if ok != want {
		t.Errorf("InlineFun of %s with %s is %v, want %v", textOf(e), textOfLibrary(lib), ok, want)
	}
	rule, ruleOk := funByRule(lib, e, 1, 0)
	wantSameResult(t, "InlineFun of "+textOf(e)+" with "+textOfLibrary(lib), got, ok, rule, ruleOk)
}

func TestInlineFunsAtTheNodeLimit(t *testing.T) {
	ten, twenty := closedWide(10), closedWide(20)
	for _, c := range []struct {
		lib  []impl.Def
		e    impl.Expr
		want bool
	}{
		{libraryWith(0, twenty), add(call(0), closedWide(59)), true},
		{libraryWith(0, twenty), add(call(0), closedWide(60)), false},
		{libraryWith(0, twenty), seq(closedWide(60), call(0)), false},
		{libraryWith(0, twenty), add(add(call(0), call(0)), out(out(closedWide(36)))), true},
		{libraryWith(0, twenty), add(add(call(0), call(0)), out(out(closedWide(37)))), false},
		{libraryWith(0, twenty), choice(call(0), call(0), choice(call(0), num(1), out(num(1)))), true},
		{libraryWith(0, twenty), choice(call(0), call(0), choice(call(0), call(0), num(1))), false},
		{libraryWith(1, ten), add(call(0, num(1)), add(call(0, call(0, num(1))), closedWide(43))), true},
		{libraryWith(1, ten), add(call(0, num(1)), add(call(0, call(0, num(1))), closedWide(44))), false},
		{libraryWith(1, ten), add(call(0, closedWide(33)), closedWide(35)), true},
		{libraryWith(1, ten), add(call(0, closedWide(33)), closedWide(36)), false},
		// Parts that are too large, also in arguments that are not used.
		{libraryWith(1, num(1)), out(call(0, closedWide(77))), true},
		{libraryWith(1, num(1)), out(call(0, closedWide(78))), false},
		{libraryWith(1, out(num(1))), choice(num(0), call(0, closedWide(74)), num(1)), true},
		{libraryWith(1, out(num(1))), choice(num(0), call(0, closedWide(75)), num(1)), false},
		{libraryWith(1, closedWide(70)), call(0, call(0, num(1))), false},
		{libraryWith(2, closedWide(22)), call(0, call(0, num(1), num(2)), closedWide(30)), true},
		{libraryWith(2, closedWide(22)), call(0, call(0, num(1), num(2)), closedWide(31)), false},
	} {
		checkLimit(t, c.lib, c.e, c.want)
	}
	// As many calls as there may be of a Body that is as large as may be.
	many := call(0)
	for range 13 {
		many = add(many, call(0))
	}
	checkLimit(t, libraryWith(0, closedWide(80)), many, false)
	checkLimit(t, libraryWith(0, closedWide(2)), many, false)
	checkLimit(t, libraryWith(0, num(1)), many, true)
	wideCalls := call(0)
	for range 3 {
		wideCalls = call(1, wideCalls, wideCalls, wideCalls)
	}
	lib := append(libraryWith(0, closedWide(80)), def(1, 3, closedWide(80)))
	checkLimit(t, lib, wideCalls, false)
	got, ok := impl.InlineFun(lib, wideCalls, 1)
	wantNoExpr(t, "InlineFun of many large calls", got, ok)
}
