package tests

import (
	"slices"
	"strconv"
	"strings"
	"testing"

	"loop.example/apimigrator/impl"
)

// sameTree compares without the functions under test.
func sameTree(a, b impl.Expr) bool {
	return a.Op == b.Op && a.N == b.N && slices.EqualFunc(a.Kids, b.Kids, sameTree)
}

func checkReadBack(t *testing.T, e impl.Expr, text string) {
	t.Helper()
	if got := impl.FormatExpr(e); got != text {
		t.Errorf("FormatExpr(%v) = %q, want %q", e, got, text)
	}
	got, ok := impl.ParseExpr(text)
	if !ok || !sameTree(got, e) {
		t.Errorf("ParseExpr(%q) = %v, %v, want %v", text, got, ok, e)
	}
}

func checkRefused(t *testing.T, text string) {
	t.Helper()
	if e, ok := impl.ParseExpr(text); ok || !isZero(e) {
		t.Errorf("ParseExpr(%.60q) = %v, %v", text, e, ok)
	}
}

func TestTextOfEachKind(t *testing.T) {
	cases := []struct {
		e    impl.Expr
		text string
	}{
		{num(0), "0"},
		{num(9), "9"},
		{num(10), "10"},
		{num(99), "99"},
		{variable(0), "a"},
		{variable(7), "h"},
		{call(0), "A()"},
		{call(7, num(0)), "H(0)"},
		{call(1, num(0), variable(2)), "B(0,c)"},
		{call(1, call(1), call(2), call(3)), "B(B(),C(),D())"},
		{add(num(1), variable(1)), "(1+b)"},
		{less(num(1), variable(1)), "(1<b)"},
		{choice(num(1), num(2), num(3)), "[1?2:3]"},
		{let(0, variable(0), variable(0)), "{a=a;a}"},
		{let(7, num(5), num(6)), "{h=5;6}"},
		{seq(variable(0), variable(1)), "{a;b}"},
		{seq(let(0, num(1), num(2)), num(3)), "{{a=1;2};3}"},
		{out(variable(3)), "!d"},
		{out(out(num(1))), "!!1"},
		{out(add(num(1), out(num(2)))), "!(1+!2)"},
		{let(0, call(0, variable(1)), add(variable(0), out(variable(0)))), "{a=A(b);(a+!a)}"},
	}
	for _, c := range cases {
		checkReadBack(t, c.e, c.text)
	}
}

// A node has the same text whether it has no Kids or an empty slice of them.
func TestTextWithEmptyKids(t *testing.T) {
	for _, e := range []impl.Expr{num(4), variable(2), call(5)} {
		e.Kids = []impl.Expr{}
		checkReadBack(t, e, textOf(e))
	}
}

// smallExprs are the expressions of up to some levels with a few leaves.
func smallExprs(levels int) []impl.Expr {
	list := []impl.Expr{num(0), num(10), variable(0), call(0)}
	if levels == 1 {
		return list
	}
	kids := smallExprs(levels - 1)
	for _, x := range kids {
		list = append(list, out(x), call(1, x))
		for _, y := range kids {
			list = append(list, add(x, y), less(x, y), seq(x, y), let(0, x, y), let(1, x, y), call(2, x, y))
			list = append(list, choice(x, y, kids[0]), choice(kids[1], x, y), call(3, x, kids[2], y))
		}
	}
	return list
}

func TestSmallExprsAreReadBack(t *testing.T) {
	seen := map[string]bool{}
	for _, e := range smallExprs(3) {
		text := textOf(e)
		seen[text] = true
		checkReadBack(t, e, text)
		if !impl.ExprValid(e, []int{0}) {
			t.Errorf("ExprValid(%q) is false", text)
		}
	}
	if len(seen) < 20000 {
		t.Errorf("only %d texts", len(seen))
	}
}

// Whatever is read has just the text that it was read from. Of 15 letters, there are, by length:
// 4 numbers and variables; 6 numbers and 4 of !x; 10 of !x and A(); 11 of !x and 4 of A(x);
// 15 of !x, 10 of A(x), and 16 of (x+y), (x<y) and {x;y} each.
func TestShortTextsAreReadOnlyAsTheyAreWritten(t *testing.T) {
	const letters = "019aA(),+<{=;}!"
	want := [6]int{0, 4, 10, 11, 15, 73}
	var accepted [6]int
	var try func(text string)
	try = func(text string) {
		checkRefusedOrReadBack(t, text)
		if _, ok := impl.ParseExpr(text); ok {
			accepted[len(text)]++
		}
		for i := 0; i < len(letters) && len(text) < 5; i++ {
			try(text + letters[i:i+1])
		}
	}
	try("")
	if accepted != want {
		t.Errorf("%v texts accepted, want %v", accepted, want)
	}
}

func TestChangedTexts(t *testing.T) {
	for _, text := range []string{"{a=A(b);[(a<3)?{!a;B(a,7)}:C()]}", "[(1+a)?!H(0,99,h):{f=12;{f;G()}}]"} {
		for i := range len(text) + 1 {
			if i < len(text) {
				checkRefusedOrReadBack(t, text[:i]+text[i+1:])
			}
			for c := range 256 {
				inserted := string([]byte{byte(c)})
				checkRefusedOrReadBack(t, text[:i]+inserted+text[i:])
				if i < len(text) {
					checkRefusedOrReadBack(t, text[:i]+inserted+text[i+1:])
				}
			}
		}
	}
}

func checkRefusedOrReadBack(t *testing.T, text string) {
	t.Helper()
	e, ok := impl.ParseExpr(text)
	if ok && (textOf(e) != text || impl.FormatExpr(e) != text) || !ok && !isZero(e) {
		t.Errorf("ParseExpr(%q) = %v, %v", text, e, ok)
	}
}

func TestRefusedTexts(t *testing.T) {
	texts := []string{
		"", " ", "1 ", " 1", "1\n", "\x00", "1\x00", "\xff", "é", "１",
		"00", "01", "007", "100", "123", "99999999999999999999", "-1", "+1", "-0", "1_0", "0x1", "1.0",
		"(01+1)", "A(00)", "!05", "{a=01;a}", "[1?02:3]",
		"i", "z", "aa", "a1", "1a", "`", "@",
		"A", "I()", "Z()", "A(", "A)", "A(1", "A(1,", "A(,)", "A(,1)", "A(1,)", "A(1 ,2)", "A(1;2)", "A(1)(2)",
		"A(1,2,3,4)", "A(1,2,3,)", "A(1,2,3", "A()()", "AA()", "a()",
		"(", ")", "()", "(a)", "(1+)", "(+1)", "(1+2", "1+2", "(1+2))", "(1+2+3)", "(1-2)", "(1>2)", "(1<=2)", "((1+2)", "(1 + 2)",
		"[", "[]", "[1?2:3", "[1?2]", "[1:2?3]", "[1?2:]", "[?2:3]", "[1?:3]", "[1?2:3:4]", "1?2:3",
		"{", "{}", "{1}", "{1;}", "{;1}", "{1;2;3}", "{1;2", "{1,2}", "{a}", "{a=1}", "{a=1;}", "{a=;1}", "{=1;2}",
		"{i=1;2}", "{A=1;2}", "{1=1;2}", "{a=b=1;2}", "{a==1;2}", "{a=1;2;3}", "{ab=1;2}", "{(=1;2}", "{==1;2}",
		"!", "!!", "! a", "1!", "!1!", "a=1",
	}
	for _, text := range texts {
		checkRefused(t, text)
	}
}

func TestTextsOfNumbersAndLetters(t *testing.T) {
	for n := range 1000 {
		text := strconv.Itoa(n)
		if n <= impl.MaxNum {
			checkReadBack(t, num(n), text)
		} else {
			checkRefused(t, text)
		}
		checkRefused(t, "0"+text)
	}
	for c := range 256 {
		text := string([]byte{byte(c)})
		_, ok := impl.ParseExpr(text)
		if want := c >= 'a' && c <= 'h' || c >= '0' && c <= '9'; ok != want {
			t.Errorf("ParseExpr(%q) is %v", text, ok)
		}
		_, ok = impl.ParseExpr(text + "()")
		if want := c >= 'A' && c <= 'H'; ok != want {
			t.Errorf("ParseExpr(%q) is %v", text+"()", ok)
		}
		_, ok = impl.ParseExpr("{" + text + "=1;2}")
		if want := c >= 'a' && c <= 'h'; ok != want {
			t.Errorf("ParseExpr(%q) is %v", "{"+text+"=1;2}", ok)
		}
	}
}

func TestTextsAtTheLimits(t *testing.T) {
	for _, e := range []impl.Expr{chain(impl.MaxDepth), wide(impl.MaxNodes), wide(impl.MaxNodes - 1)} {
		checkReadBack(t, e, textOf(e))
	}
	for _, e := range []impl.Expr{chain(impl.MaxDepth + 1), wide(impl.MaxNodes + 1), wide(impl.MaxNodes + 2)} {
		checkRefused(t, textOf(e))
		if text := impl.FormatExpr(e); text != "" {
			t.Errorf("FormatExpr = %q", text)
		}
	}
}

// nested goes one level down on every way into a node, to a leaf at the given depth.
func nested(depth int) []impl.Expr {
	if depth == 1 {
		return []impl.Expr{num(1)}
	}
	var list []impl.Expr
	for _, x := range nested(depth - 1)[:1] {
		list = append(list, out(x), call(0, x), call(0, num(2), x), call(0, num(2), num(3), x))
		list = append(list, add(x, num(2)), add(num(2), x), less(x, num(2)), less(num(2), x))
		list = append(list, seq(x, num(2)), seq(num(2), x), let(0, x, num(2)), let(0, num(2), x))
		list = append(list, choice(x, num(2), num(3)), choice(num(2), x, num(3)), choice(num(2), num(3), x))
	}
	return list
}

func TestDepthCountsInEveryOperand(t *testing.T) {
	for _, e := range nested(impl.MaxDepth) {
		checkReadBack(t, e, textOf(e))
	}
	for _, e := range nested(impl.MaxDepth + 1) {
		checkRefused(t, textOf(e))
		if impl.FormatExpr(e) != "" || impl.ExprValid(e, nil) {
			t.Errorf("%q is accepted", textOf(e))
		}
	}
}

func TestHugeTexts(t *testing.T) {
	for _, part := range []string{"!", "(", "[", "{", "A(", "{a=", "1", "0", "a", "(1+", "[1?2:", "{1;"} {
		checkRefused(t, strings.Repeat(part, 1000000))
	}
}

func TestParsedExprsAreNewMemory(t *testing.T) {
	text := "A((1+2),[a?b:c],{d=!e;{f;g}})"
	first, _ := impl.ParseExpr(text)
	second, _ := impl.ParseExpr(text)
	overwrite(first)
	if textOf(second) != text {
		t.Errorf("a parsed expression became %q", textOf(second))
	}
	// Within one result: an element behind one slice is no element of another one.
	third, _ := impl.ParseExpr(text)
	growAll(third)
	if textOf(third) != text {
		t.Errorf("a grown expression became %q", textOf(third))
	}
}

func overwrite(e impl.Expr) {
	for i, k := range e.Kids {
		overwrite(k)
		e.Kids[i] = impl.Expr{Op: 77, N: 77}
	}
}

func growAll(e impl.Expr) {
	for _, k := range e.Kids {
		growAll(k)
	}
	unused := e.Kids[len(e.Kids):cap(e.Kids)]
	for i := range unused {
		unused[i] = impl.Expr{Op: 77, N: 77}
	}
}
