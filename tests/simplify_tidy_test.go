package tests

import (
	"testing"

	"loop.example/apimigrator/impl"
)

func TestTidyExprs(t *testing.T) {
	wantChanged(t, libraryOf(t, purityLibrary), "TidyExpr", [][2]string{
		// There is nothing to do, or one of the functions is enough.
		{"a", "a"}, {"7", "7"}, {"!1", "!1"}, {"(a+b)", "(a+b)"}, {"{!1;2}", "{!1;2}"}, {"{a=!1;(a+a)}", "{a=!1;(a+a)}"}, {"A(1,2)", "A(1,2)"},
		{"(1+2)", "3"}, {"{a=1;a}", "1"}, {"{G();2}", "2"}, {"{a=!1;!a}", "!!1"},
		// What one of them does is what another one needs.
		{"{a=(1+2);{b=!a;(b+c)}}", "(!3+c)"}, {"{a=1;(a+a)}", "2"}, {"{a=1;[a?!2:!3]}", "!2"}, {"{a=0;[a?!2:!3]}", "!3"},
		{"[{a=1;a}?{a=2;a}:3]", "2"}, {"{a=(1<2);[a?{b=!1;b}:2]}", "!1"}, {"{a={G();1};(a+a)}", "2"}, {"{a=B(1);{a;{b=2;(b+b)}}}", "4"},
		{"{{b=G();1};!2}", "!2"}, {"{a={b=1;(b+b)};[a?a:3]}", "2"}, {"{a=[0?!1:b];{c=a;!c}}", "!b"}, {"{a=[1?B(1):!2];3}", "3"},
		{"{a=!1;{b=A(a,a);2}}", "{a=!1;2}"}, {"{a=!1;{{a;2};a}}", "!1"}, {"{a=!1;{b=G();{c=a;(c+3)}}}", "(!1+3)"},
		{"{a=!1;{b=2;{c=(b+b);(c+(a+c))}}}", "(4+(!1+4))"}, {"[{a=1;{b=2;(a<b)}}?{a=!1;a}:!2]", "!1"},
		// A binding that puts something out and is not used.
		{"{a=!1;2}", "{a=!1;2}"}, {"{a=C(1);{b=a;2}}", "{a=C(1);2}"}, {"{a=(1+!2);{b=(a+1);3}}", "{a=(1+!2);3}"}, {"{a=D(1);2}", "{a=D(1);2}"},
		{"{a=E();{a=E();3}}", "{a=E();{a=E();3}}"}, {"{a={b=!1;2};{c=a;3}}", "{a={b=!1;2};3}"}, {"{a=[0?B(1):!2];3}", "{a=!2;3}"},
		// A variable that is used behind an output.
		{"{a=b;{!2;a}}", "{!2;b}"}, {"{a=!1;{!2;a}}", "{a=!1;{!2;a}}"}, {"{a=C(1);(E()+a)}", "{a=C(1);(E()+a)}"}, {"{a=B(1);(!2+a)}", "{a=B(1);(!2+a)}"},
		{"{a=!1;(D(2)+a)}", "{a=!1;(D(2)+a)}"}, {"{a=!1;{b=!2;(b+a)}}", "{a=!1;(!2+a)}"}, {"{a=!1;(B(2)+a)}", "(B(2)+!1)"}, {"{a=!1;[b?a:2]}", "{a=!1;[b?a:2]}"},
		{"{a=!1;({0;!2}+a)}", "{a=!1;(!2+a)}"}, {"{a=!1;([0?!2:3]+a)}", "(3+!1)"}, {"{a=!1;{b=!2;(a+b)}}", "(!1+!2)"},
		// A name that would be captured.
		{"{a=b;{b=1;(a+b)}}", "(b+1)"}, {"{a=!b;{b=c;(a+(b+b))}}", "(!b+(c+c))"}, {"{a=!b;{b=!c;(b+a)}}", "{a=!b;(!c+a)}"},
		{"{a=!b;{b=B(c);(a+(b+b))}}", "{c=B(c);(!b+(c+c))}"}, {"{a=b;{b=!a;(a+(b+b))}}", "{c=!b;(b+(c+c))}"},
		// There is no fresh variable, and one is needed at first, or at all.
		{"{a=b;{b=!1;A(A(A(a,b),A(c,d)),A(A(e,f),A(g,h)))}}", "A(A(A(b,!1),A(c,d)),A(A(e,f),A(g,h)))"},
		{"{a=b;{b=!1;A(A(A(a,b),A(b,c)),A(A(d,e),A(f,A(g,h))))}}", "{a=b;{b=!1;A(A(A(a,b),A(b,c)),A(A(d,e),A(f,A(g,h))))}}"},
	})
}

// The example of the document, and the same with each of the functions on its own.
func TestTidyExprInSteps(t *testing.T) {
	lib := libraryOf(t, "A1=(a+1)\nB1=!a\n")
	e := exprOf(t, "{a=(1+2);{b=!a;(b+c)}}")
	w := ways(lib)
	for _, s := range [][2]string{
		{"DropLets", "{a=(1+2);{b=!a;(b+c)}}"}, {"PutAtoms", "{a=(1+2);{b=!a;(b+c)}}"}, {"FoldExpr", "{a=3;{b=!a;(b+c)}}"},
		{"FoldExpr", "{a=3;{b=!a;(b+c)}}"}, {"PutAtoms", "{b=!3;(b+c)}"}, {"DropLets", "{b=!3;(b+c)}"}, {"PutOnce", "(!3+c)"},
		{"TidyExpr", "(!3+c)"},
	} {
		got, ok := w[s[0]].change(e)
		wantExpr(t, s[0]+" of "+textOf(e), got, ok, s[1])
		e = got
	}
}

// A binding that is too deep for its place may fit there after those around it are gone.
func TestTidyExprAtTheDepthLimit(t *testing.T) {
	inner := let(7, add(variable(1), chain(6)), deep(8))
	e := let(1, out(num(1)), inner)
	once := let(7, add(out(num(1)), chain(6)), deep(8))
	twice := add(out(num(1)), chain(6))
	for range 7 {
		twice = out(twice)
	}
	got, ok := impl.PutOnce(nil, e)
	wantExpr(t, "PutOnce of "+textOf(e), got, ok, textOf(once))
	got, ok = impl.PutOnce(nil, got)
	wantExpr(t, "PutOnce of "+textOf(once), got, ok, textOf(twice))
	got, ok = impl.TidyExpr(nil, e)
	wantExpr(t, "TidyExpr of "+textOf(e), got, ok, textOf(twice))
	e = out(e)
	got, ok = impl.TidyExpr(nil, e)
	wantExpr(t, "TidyExpr of "+textOf(e), got, ok, textOf(out(once)))
}

func TestTidyLibraries(t *testing.T) {
	for text, want := range map[string]string{
		"":                                     "",
		"A1=a\n":                               "A1=a\n",
		"A1=(a+(1+1))\nB1={c=A(a);c}\n":        "A1=(a+2)\nB1=A(a)\n",
		"A0~(1+2)\nC3~{h=c;(h+a)}\nH0=(1<2)\n": "A0~3\nC3~(c+a)\nH0=1\n",
		"A1={b=!a;b}\nB2={A(1);{c=b;{a=2;c}}}\nC0=[1?C():!1]\n": "A1=!a\nB2={A(1);b}\nC0=C()\n",
		"B2={c=a;{a=b;(a+c)}}\nE1={b=!1;(b+E(a))}\n":            "B2=(b+a)\nE1=(!1+E(a))\n",
		// What is pure is what is so in the library as it was, also where that changes.
		"A0=[0?!1:2]\nB0={A();3}\n":                   "A0=2\nB0={A();3}\n",
		"A0=2\nB0={A();3}\n":                          "A0=2\nB0=3\n",
		"A0={B();3}\nB0=[0?!1:2]\n":                   "A0={B();3}\nB0=2\n",
		"A0=[1?2:A()]\nB1={b=!a;(A()+b)}\n":           "A0=2\nB1={b=!a;(A()+b)}\n",
		"A1=B(a)\nB1={C();(a+0)}\nC0={D();1}\nD0=9\n": "A1=B(a)\nB1=(a+0)\nC0=1\nD0=9\n",
	} {
		got, ok := impl.TidyLibrary(libraryOf(t, text))
		if !ok || textOfLibrary(got) != want {
			t.Errorf("TidyLibrary of %q = %q, %v, want %q", text, textOfLibrary(got), ok, want)
		}
	}
}
