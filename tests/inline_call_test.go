package tests

import (
	"testing"

	"loop.example/apimigrator/impl"
)

// inlineLibrary has functions out of use that call others, also within others.
const inlineLibrary = "A2=(a+b)\nB1~A(a,1)\nC1~B(!a)\nD2~{c=A(a,a);(c+b)}\nE1~E(a)\nF2~A(b,a)\nG0=!7\nH3={!c;{b=a;(a+b)}}\n"

func TestInlineCalls(t *testing.T) {
	wantCall(t, libraryOf(t, inlineLibrary), [][2]string{
		{"B((c+2))", "{b=(c+2);A(b,1)}"}, {"C(1)", "{b=1;B(!b)}"}, {"A(1,2)", "{c=1;{d=2;(c+d)}}"}, {"F(!1,!2)", "{c=!1;{d=!2;A(d,c)}}"},
		{"G()", "!7"}, {"H(!1,!2,3)", "{d=!1;{e=!2;{f=3;{!f;{b=d;(d+b)}}}}}"},
		// The arguments have variables, also ones that the Body binds or that are its arguments.
		{"D(c,d)", "{e=c;{f=d;{c=A(e,e);(c+f)}}}"}, {"D(1,2)", "{d=1;{e=2;{c=A(d,d);(c+e)}}}"}, {"D(c,c)", "{d=c;{e=c;{c=A(d,d);(c+e)}}}"},
		{"B(a)", "{b=a;A(b,1)}"}, {"B(b)", "{c=b;A(c,1)}"}, {"A(b,a)", "{c=b;{d=a;(c+d)}}"}, {"A(d,c)", "{e=d;{f=c;(e+f)}}"}, {"A(d,e)", "{c=d;{f=e;(c+f)}}"},
		{"C((b+(c+e)))", "{d=(b+(c+e));B(!d)}"}, {"H(b,b,b)", "{d=b;{e=b;{f=b;{!f;{b=d;(d+b)}}}}}"},
		// Variables that an argument binds count as well.
		{"B({b=!1;b})", "{c={b=!1;b};A(c,1)}"}, {"B({b=!1;2})", "{c={b=!1;2};A(c,1)}"}, {"A({c=1;c},{e=2;e})", "{d={c=1;c};{f={e=2;e};(d+f)}}"},
		// Only the call at the root is inlined.
		{"B(B(1))", "{b=B(1);A(b,1)}"}, {"A(A(1,2),B(3))", "{c=A(1,2);{d=B(3);(c+d)}}"}, {"E(E(1))", "{b=E(1);E(b)}"}, {"C(G())", "{b=G();B(!b)}"},
		{"E(1)", "{b=1;E(b)}"},
		// It is not a call.
		{"1", ""}, {"a", ""}, {"!B(1)", ""}, {"(B(1)+1)", ""}, {"{a=1;B(a)}", ""}, {"{1;B(1)}", ""}, {"[1?B(1):B(2)]", ""}, {"{a=B(1);a}", ""},
		// It does not fit.
		{"A()", ""}, {"A(1)", ""}, {"A(1,2,3)", ""}, {"G(1)", ""}, {"B(A(1))", ""}, {"H(1,2)", ""},
	})
	wantCall(t, libraryOf(t, "A1={a=(a+1);!a}\nB2={b=!a;{a=b;(a+b)}}\nC3=0\nD2={a={b=a;(a+b)};{b=(a+b);b}}\nF2={a=1;{b=2;(a+b)}}\n"), [][2]string{
		{"A(b)", "{c=b;{a=(c+1);!a}}"}, {"A(5)", "{b=5;{a=(b+1);!a}}"}, {"A(a)", "{b=a;{a=(b+1);!a}}"},
		{"B(!1,!2)", "{c=!1;{d=!2;{b=!c;{a=b;(a+b)}}}}"}, {"B(a,b)", "{c=a;{d=b;{b=!c;{a=b;(a+b)}}}}"},
		// Arguments that the Body does not use are evaluated, too, and their variables are not those of the arguments.
		{"C(!1,!2,!3)", "{d=!1;{e=!2;{f=!3;0}}}"}, {"C(a,d,f)", "{e=a;{g=d;{h=f;0}}}"}, {"F(!3,!4)", "{c=!3;{d=!4;{a=1;{b=2;(a+b)}}}}"},
		{"D(1,2)", "{c=1;{d=2;{a={b=c;(c+b)};{b=(a+d);b}}}}"},
		{"H(1)", ""}, {"E()", ""},
	})
}

// A fresh variable has to be left for each argument.
func TestInlineCallsWithManyVariables(t *testing.T) {
	lib := libraryOf(t, "A1={b=a;{c=b;{d=c;{e=d;{f=e;f}}}}}\nB3={d=a;(d+(b+c))}\nC0={a=1;{b=a;{c=b;{d=c;{e=d;{f=e;{g=f;{h=g;h}}}}}}}}\nD1={b=a;{c=b;{d=c;{e=d;{f=e;{g=f;{h=g;h}}}}}}}\nE3=(a+(b+c))\n")
	wantCall(t, lib, [][2]string{
		{"A(1)", "{g=1;{b=g;{c=b;{d=c;{e=d;{f=e;f}}}}}}"}, {"A(a)", "{g=a;{b=g;{c=b;{d=c;{e=d;{f=e;f}}}}}}"},
		{"A(g)", "{h=g;{b=h;{c=b;{d=c;{e=d;{f=e;f}}}}}}"}, {"A(h)", "{g=h;{b=g;{c=b;{d=c;{e=d;{f=e;f}}}}}}"},
		{"A((g+h))", ""}, {"A({g=h;1})", ""}, {"A({h={g=1;2};3})", ""}, {"A((g+g))", "{h=(g+g);{b=h;{c=b;{d=c;{e=d;{f=e;f}}}}}}"},
		{"B(1,2,3)", "{e=1;{f=2;{g=3;{d=e;(d+(f+g))}}}}"}, {"B(1,e,3)", "{f=1;{g=e;{h=3;{d=f;(d+(g+h))}}}}"}, {"B(g,d,a)", "{e=g;{f=d;{h=a;{d=e;(d+(f+h))}}}}"},
		{"B(e,f,3)", ""}, {"B(e,f,g)", ""}, {"B(1,2,(g+h))", ""}, {"B({h=1;2},2,{f=1;2})", ""},
		{"C()", "{a=1;{b=a;{c=b;{d=c;{e=d;{f=e;{g=f;{h=g;h}}}}}}}}"}, {"D(1)", ""}, {"D(a)", ""},
		{"E(d,e,a)", "{f=d;{g=e;{h=a;(f+(g+h))}}}"}, {"E(d,e,h)", ""}, {"E(d,(d+e),{d=1;e})", "{f=d;{g=(d+e);{h={d=1;e};(f+(g+h))}}}"},
	})
}

// libraryWith has the function A with this Arity and Body.
func libraryWith(arity int, body impl.Expr) []impl.Def {
	return []impl.Def{oldDef(0, arity, body)}
}

// closedWide is wide without free variables.
func closedWide(nodes int) impl.Expr {
	return withValue(wide(nodes), 7, 1)
}

func TestInlineCallsAtTheLimits(t *testing.T) {
	for _, c := range []struct {
		lib  []impl.Def
		e    impl.Expr
		want bool
	}{
		{libraryWith(0, closedWide(80)), call(0), true},
		{libraryWith(0, chain(14)), call(0), true},
		{libraryWith(1, closedWide(78)), call(0, num(1)), true},
		{libraryWith(1, closedWide(79)), call(0, num(1)), false},
		{libraryWith(1, closedWide(77)), call(0, out(num(1))), true},
		{libraryWith(1, closedWide(78)), call(0, out(num(1))), false},
		{libraryWith(1, num(1)), call(0, closedWide(78)), true},
		{libraryWith(1, out(num(1))), call(0, closedWide(78)), false},
		{libraryWith(3, closedWide(74)), call(0, num(1), num(2), num(3)), true},
		{libraryWith(3, closedWide(75)), call(0, num(1), num(2), num(3)), false},
		{libraryWith(1, chain(13)), call(0, num(1)), true},
		{libraryWith(1, chain(14)), call(0, num(1)), false},
		{libraryWith(2, chain(12)), call(0, num(1), num(2)), true},
		{libraryWith(2, chain(13)), call(0, num(1), num(2)), false},
		{libraryWith(3, chain(11)), call(0, num(1), num(2), num(3)), true},
		{libraryWith(3, chain(12)), call(0, num(1), num(2), num(3)), false},
		{libraryWith(1, num(1)), call(0, chain(13)), true},
		{libraryWith(2, num(1)), call(0, chain(13), num(1)), true},
		{libraryWith(2, num(1)), call(0, num(1), chain(12)), true},
		{libraryWith(2, num(1)), call(0, num(1), chain(13)), false},
		{libraryWith(3, num(1)), call(0, chain(13), chain(12), chain(11)), true},
		{libraryWith(3, num(1)), call(0, num(1), num(1), chain(12)), false},
	} {
		want, _ := inlinedByRule(c.lib, c.e)
		what := textOf(c.e) + " with " + textOfLibrary(c.lib)
		got, ok := impl.InlineCall(c.lib, c.e)
		if c.want {
			wantExpr(t, "InlineCall of "+what, got, ok, textOf(want))
		} else {
			wantNoExpr(t, "InlineCall of "+what, got, ok)
		}
		got, ok = impl.InlineFun(c.lib, c.e, 0)
		if c.want {
			wantExpr(t, "InlineFun of "+what, got, ok, textOf(want))
		} else {
			wantNoExpr(t, "InlineFun of "+what, got, ok)
		}
		got, times, ok := impl.InlineOld(c.lib, c.e)
		if c.want {
			wantExpr(t, "InlineOld of "+what, got, ok, textOf(want))
		} else {
			wantNoExpr(t, "InlineOld of "+what, got, ok)
		}
		if times != 0 && !c.want || times != 1 && c.want {
			t.Errorf("InlineOld of %s is done %d times", what, times)
		}
	}
}
