package tests

import (
	"testing"

	"loop.example/apimigrator/impl"
)

func TestFoldedExprs(t *testing.T) {
	wantChanged(t, nil, "FoldExpr", [][2]string{
		// Sums are modulo 100.
		{"(1+2)", "3"}, {"(0+0)", "0"}, {"(99+0)", "99"}, {"(99+1)", "0"}, {"(99+2)", "1"}, {"(99+99)", "98"},
		{"(1<2)", "1"}, {"(2<2)", "0"}, {"(3<2)", "0"}, {"(0<99)", "1"}, {"(99<0)", "0"},
		// An operand is no number.
		{"(a+2)", "(a+2)"}, {"(1+a)", "(1+a)"}, {"(a<2)", "(a<2)"}, {"(1<a)", "(1<a)"},
		{"(a+a)", "(a+a)"}, {"(a<a)", "(a<a)"}, {"(0+a)", "(0+a)"}, {"(!1+2)", "(!1+2)"}, {"(1<!2)", "(1<!2)"},
		// Branches.
		{"[1?2:3]", "2"}, {"[0?2:3]", "3"}, {"[99?2:3]", "2"}, {"[2?a:b]", "a"}, {"[0?a:b]", "b"},
		{"[0?!2:3]", "3"}, {"[1?!2:3]", "!2"}, {"[1?2:!3]", "2"}, {"[0?2:!3]", "!3"}, {"[0?E():a]", "a"},
		{"[a?2:3]", "[a?2:3]"}, {"[a?2:2]", "[a?2:2]"}, {"[!1?2:3]", "[!1?2:3]"}, {"[!0?2:3]", "[!0?2:3]"},
		// Atoms in front.
		{"{1;2}", "2"}, {"{a;2}", "2"}, {"{1;!2}", "!2"}, {"{a;a}", "a"}, {"{h;E()}", "E()"},
		{"{!1;2}", "{!1;2}"}, {"{A(1,2);2}", "{A(1,2);2}"}, {"{(a+1);2}", "{(a+1);2}"}, {"{!1;!2}", "{!1;!2}"},
		// From the leaves to the root.
		{"((1+2)+(3+4))", "10"}, {"((1+2)<(1+1))", "0"}, {"[(1<2)?(3+4):5]", "7"}, {"[(2<1)?5:(3+4)]", "7"},
		{"{(1+2);3}", "3"}, {"{[0?!1:a];3}", "3"}, {"{{!1;2};3}", "{{!1;2};3}"}, {"{{1;2};3}", "3"}, {"{{1;!2};3}", "{!2;3}"},
		{"[{a;0}?1:[1?2:3]]", "2"}, {"((a+(1+2))+(3+4))", "((a+3)+7)"}, {"!(1+2)", "!3"}, {"A((1+2),{a;b})", "A(3,b)"},
		{"[a?(1+2):(3<4)]", "[a?3:1]"}, {"[(1+a)?{1;2}:[0?1:2]]", "[(1+a)?2:2]"}, {"([1?2:a]+[0?a:3])", "5"}, {"((99+2)<2)", "1"},
		// A binding is no step, but there are some in it.
		{"{a=1;a}", "{a=1;a}"}, {"{a=(1+2);(3+4)}", "{a=3;7}"}, {"{a=1;(a+1)}", "{a=1;(a+1)}"}, {"{a=1;2}", "{a=1;2}"},
		{"{a={1;2};{a;3}}", "{a=2;3}"},
		// Atoms and calls as they are.
		{"0", "0"}, {"99", "99"}, {"a", "a"}, {"h", "h"}, {"A()", "A()"}, {"H(1,2,3)", "H(1,2,3)"}, {"!1", "!1"},
	})
}

func TestDroppedLets(t *testing.T) {
	wantChanged(t, libraryOf(t, purityLibrary), "DropLets", [][2]string{
		// What is not used and pure goes.
		{"{a=1;2}", "2"}, {"{a=a;b}", "b"}, {"{a=A(1,2);b}", "b"}, {"{a=G();!1}", "!1"}, {"{a=(b+B(1));7}", "7"}, {"{a={b=1;b};C(2)}", "C(2)"},
		{"{1;2}", "2"}, {"{a;b}", "b"}, {"{A(1,2);b}", "b"}, {"{H(1,a,G());!2}", "!2"}, {"{(a+B(b));7}", "7"}, {"{[a?1:2];3}", "3"},
		// What puts something out stays, used or not.
		{"{a=!1;2}", "{a=!1;2}"}, {"{a=!1;a}", "{a=!1;a}"}, {"{!1;2}", "{!1;2}"}, {"{!a;!a}", "{!a;!a}"}, {"{a=(1+!2);3}", "{a=(1+!2);3}"},
		{"{a=C(1);2}", "{a=C(1);2}"}, {"{C(1);2}", "{C(1);2}"}, {"{a=E();2}", "{a=E();2}"}, {"{E();2}", "{E();2}"}, {"{A(E(),1);2}", "{A(E(),1);2}"},
		{"{a=[0?!1:2];3}", "{a=[0?!1:2];3}"}, {"{[0?E():2];3}", "{[0?E():2];3}"}, {"{a={b=!1;2};3}", "{a={b=!1;2};3}"},
		// What may not come to an end stays.
		{"{a=D(1);2}", "{a=D(1);2}"}, {"{D(1);2}", "{D(1);2}"}, {"{a=F(0);2}", "{a=F(0);2}"}, {"{B(F(0));2}", "{B(F(0));2}"},
		// What is used stays.
		{"{a=1;a}", "{a=1;a}"}, {"{a=A(1,2);(a+a)}", "{a=A(1,2);(a+a)}"}, {"{b=1;!b}", "{b=1;!b}"}, {"{a=1;[0?a:2]}", "{a=1;[0?a:2]}"},
		{"{a=1;{b=a;b}}", "{a=1;{b=a;b}}"}, {"{a=1;{a=(a+1);a}}", "{a=1;{a=(a+1);a}}"}, {"{h=1;C(h)}", "{h=1;C(h)}"},
		// Only the name is used, but for another variable.
		{"{a=1;{a=2;a}}", "{a=2;a}"}, {"{a=1;!{a=!2;a}}", "!{a=!2;a}"}, {"{a=a;2}", "2"}, {"({a=1;2}+a)", "(2+a)"}, {"{a=(a+a);b}", "b"},
		// From the leaves to the root.
		{"{a=1;{b=a;2}}", "2"}, {"{a=A(1,2);{b=a;c}}", "c"}, {"{a=1;{a;2}}", "2"}, {"{a=1;{{a;2};3}}", "3"}, {"{a=1;{!a;2}}", "{a=1;{!a;2}}"},
		{"{{1;2};3}", "3"}, {"{{!1;2};3}", "{{!1;2};3}"}, {"{{2;!1};3}", "{!1;3}"}, {"{!{1;2};3}", "{!2;3}"}, {"{a={b=1;!2};3}", "{a=!2;3}"},
		{"{a=!1;{b=a;c}}", "{a=!1;c}"}, {"({1;2}+{a=3;4})", "(2+4)"}, {"[{1;a}?{2;b}:{c=1;c}]", "[a?b:{c=1;c}]"}, {"C({1;{a=2;3}})", "C(3)"},
		{"{a=1;{b=2;{c=(a+b);{d=c;!5}}}}", "!5"}, {"{a=1;{b=2;{c=(a+b);{d=!c;5}}}}", "{a=1;{b=2;{c=(a+b);{d=!c;5}}}}"},
		// Nothing else changes.
		{"(1+2)", "(1+2)"}, {"[1?2:3]", "[1?2:3]"}, {"a", "a"}, {"7", "7"}, {"!1", "!1"}, {"(A(1,2)+E())", "(A(1,2)+E())"},
	})
	// What is pure depends on the library.
	for lib, want := range map[string]string{"A0=1\n": "2", "A0=!1\n": "{a=A();2}", "A0=A()\n": "{a=A();2}", "A0=B()\nB0=1\n": "2", "A0=B()\nB0=!1\n": "{a=A();2}"} {
		got, ok := impl.DropLets(libraryOf(t, lib), exprOf(t, "{a=A();2}"))
		wantExpr(t, "DropLets with "+lib, got, ok, want)
	}
}

func TestPutAtoms(t *testing.T) {
	wantChanged(t, nil, "PutAtoms", [][2]string{
		{"{a=1;a}", "1"}, {"{a=b;a}", "b"}, {"{a=1;2}", "2"}, {"{a=b;c}", "c"}, {"{a=99;(a+a)}", "(99+99)"}, {"{h=a;A(h,h,h)}", "A(a,a,a)"},
		{"{a=1;!a}", "!1"}, {"{a=1;{!2;!a}}", "{!2;!1}"}, {"{a=1;[b?a:!a]}", "[b?1:!1]"}, {"{a=a;(a+b)}", "(a+b)"}, {"({a=1;a}+a)", "(1+a)"},
		// What is bound is no atom.
		{"{a=!1;a}", "{a=!1;a}"}, {"{a=(1+2);a}", "{a=(1+2);a}"}, {"{a=A();a}", "{a=A();a}"}, {"{a=(b+c);1}", "{a=(b+c);1}"},
		// From the leaves to the root.
		{"{a={b=1;b};a}", "1"}, {"{a=1;{b=a;b}}", "1"}, {"{a=b;{b=a;(a+b)}}", "(b+b)"}, {"{a=1;{b=(a+2);b}}", "{b=(1+2);b}"},
		{"{a=!1;{b=a;(a+b)}}", "{a=!1;(a+a)}"}, {"{a={b=2;!b};{c=a;(c+c)}}", "{a=!2;(a+a)}"}, {"{{a=1;a};{b=c;!b}}", "{1;!c}"},
		{"[{a=1;a}?{a=b;a}:{b=a;b}]", "[1?b:a]"}, {"{a={b=1;!b};a}", "{a=!1;a}"},
		// The name is bound again.
		{"{a=1;{a=2;a}}", "2"}, {"{a=1;{a=!a;a}}", "{a=!1;a}"}, {"{a=1;(a+{a=!2;a})}", "(1+{a=!2;a})"}, {"{a=b;{a=(a+1);(a+b)}}", "{a=(b+1);(a+b)}"},
		// A name would be captured.
		{"{a=b;{b=1;(a+b)}}", "(b+1)"}, {"{a=b;{b=!1;(a+b)}}", "{c=!1;(b+c)}"}, {"{a=b;{b=!a;(a+b)}}", "{c=!b;(b+c)}"},
		{"{a=b;{b=!1;b}}", "{b=!1;b}"}, {"{a=b;{b=!a;b}}", "{b=!b;b}"}, {"{a=b;{b=!1;{c=!b;(a+c)}}}", "{d=!1;{c=!d;(b+c)}}"},
		{"{a=b;{c=!1;(a+c)}}", "{c=!1;(b+c)}"}, {"{a=c;{b=!1;{c=!2;(a+(b+c))}}}", "{b=!1;{d=!2;(c+(b+d))}}"},
		{"{a=b;({b=!1;(a+b)}+{b=!2;a})}", "({c=!1;(b+c)}+{c=!2;b})"}, {"{b=a;{a=!1;(a+b)}}", "{c=!1;(c+a)}"},
		// Nothing else changes.
		{"{1;2}", "{1;2}"}, {"(1+2)", "(1+2)"}, {"[1?2:3]", "[1?2:3]"}, {"a", "a"}, {"7", "7"}, {"A(!a,1)", "A(!a,1)"},
	})
}

func TestPutAtomsWithoutFreshVar(t *testing.T) {
	const all = "A(A(a,b,c),A(d,e,f),A(g,h))"
	const sevenOfThem = "A(A(a,b,c),A(d,e,f),g)"
	wantChanged(t, nil, "PutAtoms", [][2]string{
		{"{a=b;{b=!1;" + all + "}}", "{a=b;{b=!1;" + all + "}}"},
		{"{a=b;{b=!1;" + sevenOfThem + "}}", "{h=!1;A(A(b,h,c),A(d,e,f),g)}"},
		{"{a=b;{b=!1;{h=!2;" + sevenOfThem + "}}}", "{a=b;{b=!1;{h=!2;" + sevenOfThem + "}}}"},
		// No fresh variable is needed.
		{"{a=1;{b=!1;" + all + "}}", "{b=!1;A(A(1,b,c),A(d,e,f),A(g,h))}"},
		{"{a=b;" + all + "}", "A(A(b,b,c),A(d,e,f),A(g,h))"},
		{"{a=b;{a=!1;" + all + "}}", "{a=!1;" + all + "}"},
		{"{a=b;{b=!a;A(A(b,c,d),A(e,f,g),h)}}", "{b=!b;A(A(b,c,d),A(e,f,g),h)}"},
		// The inner one cannot be replaced before the outer one is, and is not tried again.
		{"{b=1;{a=b;{b=!1;" + all + "}}}", "{a=1;{b=!1;" + all + "}}"},
		{"{c=1;{a=b;{b=!1;" + all + "}}}", "{a=b;{b=!1;A(A(a,b,1),A(d,e,f),A(g,h))}}"},
		// The others are replaced as before.
		{"({c=1;c}+{a=b;{b=!1;{c=2;" + all + "}}})", "(1+{c=!1;A(A(b,c,2),A(d,e,f),A(g,h))})"},
		{"({c=1;c}+{a=b;{b=!{d=3;d};" + all + "}})", "(1+{a=b;{b=!3;" + all + "}})"},
	})
}

func TestPutOnce(t *testing.T) {
	wantChanged(t, libraryOf(t, purityLibrary), "PutOnce", [][2]string{
		{"{a=!1;a}", "!1"}, {"{a=1;a}", "1"}, {"{a=C(1);!a}", "!C(1)"}, {"{a=!1;(a+!2)}", "(!1+!2)"}, {"{h=E();(h<E())}", "(E()<E())"},
		{"{a=!1;[a?2:!3]}", "[!1?2:!3]"}, {"{a=!1;C(a)}", "C(!1)"}, {"{a=!1;D(a)}", "D(!1)"}, {"{a=!1;{a;2}}", "{!1;2}"}, {"{a=D(1);{b=a;E()}}", "{b=D(1);E()}"},
		// The variable is not used, or more than once.
		{"{a=!1;2}", "{a=!1;2}"}, {"{a=A(1,2);2}", "{a=A(1,2);2}"}, {"{a=!1;(a+a)}", "{a=!1;(a+a)}"}, {"{a=1;(a+a)}", "{a=1;(a+a)}"},
		{"{a=!1;[b?a:a]}", "{a=!1;[b?a:a]}"}, {"{a=!1;{a;a}}", "{a=!1;{a;a}}"}, {"{a=!1;A(a,a)}", "{a=!1;A(a,a)}"}, {"{a=!1;{a=!2;2}}", "{a=!1;{a=!2;2}}"},
		// It stands once, and the name stands for another variable as well.
		{"{a=!1;{a=a;a}}", "!1"}, {"{a=!1;{a=!a;(a+a)}}", "{a=!!1;(a+a)}"}, {"{a=!1;(a+{a=b;(a+a)})}", "(!1+{a=b;(a+a)})"},
		// It is used behind an output, or behind what may not come to an end.
		{"{a=!1;(!2+a)}", "{a=!1;(!2+a)}"}, {"{a=!1;{!2;a}}", "{a=!1;{!2;a}}"}, {"{a=b;{!2;a}}", "{a=b;{!2;a}}"}, {"{a=!1;A(!2,a)}", "{a=!1;A(!2,a)}"},
		{"{a=A(1,2);(E()+a)}", "{a=A(1,2);(E()+a)}"}, {"{a=!1;(D(2)+a)}", "{a=!1;(D(2)+a)}"}, {"{a=!1;{F(2);a}}", "{a=!1;{F(2);a}}"},
		{"{a=!1;[!2?a:3]}", "{a=!1;[!2?a:3]}"}, {"{a=!1;{b=!2;(b+(b+a))}}", "{a=!1;{b=!2;(b+(b+a))}}"}, {"{a=!1;{C(2);!a}}", "{a=!1;{C(2);!a}}"},
		// It is used behind what is pure.
		{"{a=!1;(2+a)}", "(2+!1)"}, {"{a=!1;(b+a)}", "(b+!1)"}, {"{a=!1;(B(2)+a)}", "(B(2)+!1)"}, {"{a=C(1);{[b?1:2];a}}", "{[b?1:2];C(1)}"},
		{"{a=!1;{b=G();(a+(b+b))}}", "{b=G();(!1+(b+b))}"}, {"{a=!1;H(b,G(),a)}", "H(b,G(),!1)"},
		// It is used in one branch only.
		{"{a=!1;[b?a:2]}", "{a=!1;[b?a:2]}"}, {"{a=!1;[b?2:a]}", "{a=!1;[b?2:a]}"}, {"{a=1;[0?a:2]}", "{a=1;[0?a:2]}"}, {"{a=!1;(2+[b?a:3])}", "{a=!1;(2+[b?a:3])}"},
		// It is used where it would not be evaluated in the same order.
		{"{a=B(1);(!2+a)}", "{a=B(1);(!2+a)}"}, {"{a=B(1);(a+!2)}", "(B(1)+!2)"}, {"{a=!1;({b=!2;b}+a)}", "{a=!1;(!2+a)}"},
		// From the leaves to the root.
		{"{a=!1;{b=!2;(a+b)}}", "(!1+!2)"}, {"{a=!1;{b=!2;(b+a)}}", "{a=!1;(!2+a)}"}, {"{a=!1;{b=a;(b+3)}}", "(!1+3)"},
		{"{a={b=!1;!b};!a}", "!!!1"}, {"{a=!{b=!1;b};{c=a;c}}", "!!1"}, {"({a=!1;a}+{b=!2;!b})", "(!1+!!2)"},
		{"[{a=!1;a}?{b=!2;b}:{c=!3;(c+c)}]", "[!1?!2:{c=!3;(c+c)}]"}, {"{a=!1;{b=!2;{c=!3;((a+b)+c)}}}", "((!1+!2)+!3)"},
		{"{a=B(1);{b=B(a);{c=B(b);(c+c)}}}", "{c=B(B(B(1)));(c+c)}"}, {"{a=!1;{b=!2;{c=!3;((b+a)+c)}}}", "{a=!1;((!2+a)+!3)}"},
		// A name would be captured.
		{"{a=!b;{b=c;(a+(b+b))}}", "{c=c;(!b+(c+c))}"}, {"{a=!b;{b=a;(b+b)}}", "{b=!b;(b+b)}"}, {"{a=!b;{b=c;(a+b)}}", "(!b+c)"},
		{"{a=(b+c);{b=1;{c=2;(a+((b+b)+(c+c)))}}}", "{d=1;{e=2;((b+c)+((d+d)+(e+e)))}}"}, {"{a=!a;{b=1;(a+(b+b))}}", "{b=1;(!a+(b+b))}"},
		{"{a={b=1;(b+b)};{b=c;(a+(b+b))}}", "{b=c;({b=1;(b+b)}+(b+b))}"}, {"{a=!b;{b=1;(a+{c=2;((b+b)+(c+c))})}}", "{d=1;(!b+{c=2;((d+d)+(c+c))})}"},
		// Nothing else changes.
		{"{1;2}", "{1;2}"}, {"(1+2)", "(1+2)"}, {"[1?2:3]", "[1?2:3]"}, {"a", "a"}, {"7", "7"}, {"A(!a,1)", "A(!a,1)"}, {"!{!1;2}", "!{!1;2}"},
	})
	// What comes first depends on the library.
	for lib, want := range map[string]string{"A0=1\n": "(A()+!b)", "A0=!1\n": "{a=!b;(A()+a)}", "A0=A()\n": "{a=!b;(A()+a)}", "A0=B()\nB0=!1\n": "{a=!b;(A()+a)}"} {
		got, ok := impl.PutOnce(libraryOf(t, lib), exprOf(t, "{a=!b;(A()+a)}"))
		wantExpr(t, "PutOnce with "+lib, got, ok, want)
	}
}

func TestPutOnceWithoutFreshVar(t *testing.T) {
	lib := libraryOf(t, "A3=(a+(b+c))\nB2=(a+b)\n")
	const all = "A(A(a,b,c),A(d,e,f),B(g,B(h,b)))"
	wantChanged(t, lib, "PutOnce", [][2]string{
		{"{a=!b;{b=1;" + all + "}}", "{a=!b;{b=1;" + all + "}}"},
		{"{a=!b;{b=1;A(A(a,b,c),A(d,e,f),B(g,b))}}", "{h=1;A(A(!b,h,c),A(d,e,f),B(g,h))}"},
		// No fresh variable is needed.
		{"{a=!c;{b=1;" + all + "}}", "{b=1;A(A(!c,b,c),A(d,e,f),B(g,B(h,b)))}"},
		{"{a=!7;{b=1;" + all + "}}", "{b=1;A(A(!7,b,c),A(d,e,f),B(g,B(h,b)))}"},
		{"{a=!b;{b=a;A(A(b,b,c),A(d,e,f),B(g,h))}}", "{b=!b;A(A(b,b,c),A(d,e,f),B(g,h))}"},
		// The others are replaced as before.
		{"({c=!1;c}+{a=!b;{b={d=3;d};" + all + "}})", "(!1+{a=!b;{b=3;" + all + "}})"},
	})
}

// At the root, a result may have a depth of 14, and one less for each node that it is in.
func TestPutOnceAtTheDepthLimit(t *testing.T) {
	around := []func(x impl.Expr) impl.Expr{
		out,
		func(x impl.Expr) impl.Expr { return add(num(1), x) },
		func(x impl.Expr) impl.Expr { return choice(num(1), num(2), x) },
		func(x impl.Expr) impl.Expr { return let(6, out(num(1)), x) },
		func(x impl.Expr) impl.Expr { return let(6, x, num(1)) },
		func(x impl.Expr) impl.Expr { return call(0, num(1), x) },
	}
	lib := libraryOf(t, "A2=(a+b)\n")
	for nodes := range around {
		for first := 1; first <= 8; first++ {
			for second := 1; second <= 13-nodes; second++ {
				e := let(7, chain(first), deep(second))
				want := chain(first + second - 1)
				if nodes+first+second-1 > impl.MaxDepth {
					want = e
				}
				for _, in := range around[:nodes] {
					e, want = in(e), in(want)
				}
				got, ok := impl.PutOnce(lib, e)
				if !ok || !sameTree(got, want) {
					t.Errorf("PutOnce of %s = %v, %v, want %s", textOf(e), got, ok, textOf(want))
				}
			}
		}
	}
}
