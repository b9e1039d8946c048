package tests

import (
	"strconv"
	"testing"

	"loop.example/apimigrator/impl"
)

func TestInlineOldFuns(t *testing.T) {
	lib := libraryOf(t, inlineLibrary)
	for _, c := range []struct {
		text  string
		times int
		want  string
	}{
		// There are none, or only within functions in use.
		{"1", 0, "1"}, {"(a+!b)", 0, "(a+!b)"}, {"A(1,G())", 0, "A(1,G())"}, {"H(1,2,3)", 0, "H(1,2,3)"},
		{"B(7)", 1, "{b=7;A(b,1)}"}, {"(B(1)+B(B(a)))", 1, "({b=1;A(b,1)}+{c={b=a;A(b,1)};A(c,1)})"},
		{"C(7)", 2, "{b=7;{c=!b;A(c,1)}}"}, {"F(!1,!2)", 1, "{c=!1;{d=!2;A(d,c)}}"}, {"(D(1,2)+F(3,4))", 2, "({d=1;{e=2;{c=A(d,d);(c+e)}}}+{c=3;{d=4;A(d,c)}})"},
		// The first one comes first, also again.
		{"(C(1)+B(2))", 3, "({b=1;{c=!b;A(c,1)}}+{b=2;A(b,1)})"}, {"B(C(1))", 3, "{b={b=1;{c=!b;A(c,1)}};A(b,1)}"}, {"C(B(1))", 3, "{c={b=1;A(b,1)};{b=!c;A(b,1)}}"},
		// A function out of use that calls itself.
		{"E(1)", -1, ""}, {"(B(1)+E(2))", -1, ""}, {"[0?E(1):2]", -1, ""}, {"A(1,E(2))", -1, ""},
		// It is not possible for the first one, or for a later one.
		{"D((d+e),(f+g))", -1, ""}, {"D(D(D(1,2),3),4)", -1, ""}, {"{B(1);F((d+(c+e)),(f+(g+h)))}", -1, ""},
	} {
		wantOld(t, lib, c.text, c.times, c.want)
	}
	// What a function in use calls is not inlined, whether that calls itself or not.
	lib = libraryOf(t, "A1=B(a)\nB1~B(a)\nC1~A(a)\nD0=D()\nE0~D()\n")
	for _, c := range [][2]string{{"A(1)", "A(1)"}, {"C(1)", "{b=1;A(b)}"}, {"E()", "D()"}, {"(E()+C(2))", "(D()+{b=2;A(b)})"}} {
		got, _, ok := impl.InlineOld(lib, exprOf(t, c[0]))
		wantExpr(t, "InlineOld of "+c[0], got, ok, c[1])
	}
	// They call each other.
	lib = libraryOf(t, "A0~C()\nB0~(A()+1)\nC0~A()\n")
	for _, text := range []string{"A()", "B()", "C()"} {
		wantOld(t, lib, text, -1, "")
	}
}

// countingLibrary has functions out of use that each call all of those before.
// InlineOld takes one away from a binary number whose digits say which of them
// are called: the least one goes, and all before it come.
const countingLibrary = "A0~1\nB0~A()\nC0~(A()+B())\nD0~(A()+(B()+C()))\nE0~((A()+B())+(C()+D()))\n"

// countingExpr calls the functions that the digits of n say.
func countingExpr(n int) impl.Expr {
	e := num(0)
	for f := range 5 {
		if n>>f&1 == 1 {
			e = add(e, call(f))
		}
	}
	return e
}

func TestInlineOldTimes(t *testing.T) {
	lib := libraryOf(t, countingLibrary)
	for n := range 32 {
		e := countingExpr(n)
		text := textOf(e)
		if n > 20 {
			wantOld(t, lib, text, -1, "")
			continue
		}
		got, times, ok := impl.InlineOld(lib, e)
		if !ok || times != n || len(callsIn(got)) != 0 {
			t.Errorf("InlineOld of %s = %v, %d, %v, want %d times", text, got, times, ok, n)
		}
		wantOld(t, lib, text, n, textOf(got))
		before := impl.EvalClient(lib, e, impl.MaxFuel)
		wantSeen(t, textOf(got), impl.EvalClient(lib, got, 0), done(before.Value, nil))
	}
}

func TestInlineTidyFuns(t *testing.T) {
	wantTidyOld(t, libraryOf(t, inlineLibrary), [][2]string{
		{"C(7)", "A(!7,1)"}, {"F(!1,!2)", "{c=!1;A(!2,c)}"}, {"B((a+b))", "A((a+b),1)"}, {"D(1,2)", "(A(1,1)+2)"}, {"D(!1,!2)", "{d=!1;(A(d,d)+!2)}"},
		{"(C(!1)+B(!2))", "(A(!!1,1)+A(!2,1))"}, {"B(B(B(!1)))", "A(A(A(!1,1),1),1)"}, {"{b=!a;B(b)}", "A(!a,1)"}, {"D(c,d)", "(A(c,c)+d)"},
		// It is tidied as well if there are no functions out of use in it.
		{"(1+2)", "3"}, {"{a=1;A(a,(a+a))}", "A(1,2)"}, {"{a=!1;{b=G();(a+b)}}", "(!1+G())"}, {"A(b,c)", "A(b,c)"}, {"{G();2}", "{G();2}"},
		// It is tidied before, too.
		{"[0?E(1):2]", "2"}, {"{B(1);2}", "2"}, {"[1?!1:D(D(D(1,2),3),4)]", "!1"}, {"{b=1;B(b)}", "A(1,1)"}, {"{b=D((d+e),(f+g));2}", "2"},
		{"{a={b=1;{d=2;{e=3;{f=4;{g=5;(d+(e+(f+g)))}}}}};D(a,a)}", "(A(14,14)+14)"},
		// It is tidied after each of them, or there would be no fresh variables.
		{"C(D(D(1,2),3))", "A(!{f=(A(1,1)+2);(A(f,f)+3)},1)"},
		{"E(1)", ""}, {"(B(1)+E(2))", ""}, {"D((d+e),(f+g))", ""}, {"{E(1);2}", ""}, {"D(D(D(1,2),3),4)", ""},
	})
	wantTidyOld(t, libraryOf(t, "A1~[(5<a)?A(a):7]\nB1~B(a)\nC2~{b=a;a}\nD2~[a?b:B(b)]\nE1=[1?2:B(a)]\nF0~!G()\nG0~F()\n"), [][2]string{
		// What calls itself goes where tidying shows that this is not reached.
		{"A(3)", "7"}, {"A(6)", ""}, {"B(1)", ""}, {"A(a)", ""}, {"C(!1,!2)", "{c=!1;{d=!2;c}}"}, {"D(1,!2)", "!2"}, {"D(0,!2)", ""}, {"D(a,2)", ""},
		// The library is not tidied.
		{"E(1)", "E(1)"}, {"{E(1);2}", "{E(1);2}"}, {"F()", ""}, {"G()", ""},
	})
}

// Each time, the number becomes one less.
func TestInlineTidyTimes(t *testing.T) {
	lib := libraryOf(t, "A1~[a?A((a+99)):!50]\nB1~A(a)\n")
	for n := range 30 {
		text := "A(" + strconv.Itoa(n) + ")"
		want := "!50"
		if n+1 > 20 {
			want = ""
		}
		wantTidyOld(t, lib, [][2]string{{text, want}})
		want = "!50"
		if n+2 > 20 {
			want = ""
		}
		wantTidyOld(t, lib, [][2]string{{"B(" + strconv.Itoa(n) + ")", want}})
		wantOld(t, lib, text, -1, "")
	}
}

// What InlineOld makes too large can be small enough if it is tidied in between.
func TestInlineTidyWithinTheLimits(t *testing.T) {
	lib := libraryOf(t, "B1~(C(a)+C(a))\nC1~[1?D(a):(((1+2)+(3+4))+((5+6)+(7+8)))]\nD1~[1?a:(((1+2)+(3+4))+((5+6)+(7+8)))]\n")
	wantOld(t, lib, "B(1)", -1, "")
	wantTidyOld(t, lib, [][2]string{{"B(1)", "2"}, {"(B(1)+B(2))", ""}, {"B(!1)", "{b=!1;(b+b)}"}, {"B(B(!2))", ""}})
	// The names count that are there at the time.
	lib = libraryOf(t, "A1~{b=a;{c=b;{d=c;{e=d;{f=e;{g=f;{h=g;h}}}}}}}\nB1~{b=a;{c=b;{d=c;{e=d;{f=e;{g=f;(!g+g)}}}}}}\n")
	wantTidyOld(t, lib, [][2]string{{"A(1)", ""}, {"B(1)", "(!1+1)"}, {"B(B(1))", ""}, {"[1?2:A(1)]", "2"}, {"B({h=1;h})", "(!1+1)"}, {"B({h=!1;h})", "{h=!1;(!h+h)}"}})
	wantOld(t, lib, "B({h=1;h})", -1, "")
}
