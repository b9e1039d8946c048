package tests

import (
	"math/rand"
	"runtime/debug"
	"testing"

	"loop.example/apimigrator/impl"
)

func TestPartsAtPaths(t *testing.T) {
	const text = "(a+B(1,{c=22;!c}))"
	e := exprOf(t, text)
	for _, c := range []struct {
		path     []int
		from, to int
		part     string
	}{
		{nil, 0, 18, text},
		{[]int{}, 0, 18, text},
		{[]int{0}, 1, 2, "a"},
		{[]int{1}, 3, 17, "B(1,{c=22;!c})"},
		{[]int{1, 0}, 5, 6, "1"},
		{[]int{1, 1}, 7, 16, "{c=22;!c}"},
		{[]int{1, 1, 0}, 10, 12, "22"},
		{[]int{1, 1, 1}, 13, 15, "!c"},
		{[]int{1, 1, 1, 0}, 14, 15, "c"},
	} {
		got, ok := impl.PartAt(e, c.path)
		wantExpr(t, "PartAt", got, ok, c.part)
		place, ok := impl.SpanAt(e, c.path)
		if want := (impl.Span{From: c.from, To: c.to}); !ok || place != want || text[c.from:c.to] != c.part {
			t.Errorf("SpanAt of %v = %v, %v, want %v", c.path, place, ok, want)
		}
	}
	wantPathTexts(t, "PathsOf "+text, impl.PathsOf(e), ". 0 1 10 11 110 111 1110")
}

// In the texts, the part at the path stands between two bars; there is none if there are no bars.
func TestSpansOfEachKind(t *testing.T) {
	for _, c := range []struct {
		path []int
		text string
	}{
		{nil, "|7|"}, {nil, "|99|"}, {nil, "|h|"}, {nil, "|A()|"},
		{nil, "|!1|"}, {[]int{0}, "!|1|"}, {[]int{0, 0, 0}, "!!!|10|"},
		{[]int{0}, "(|10|+2)"}, {[]int{1}, "(10+|2|)"}, {[]int{0}, "(|a|<22)"}, {[]int{1}, "(a<|22|)"},
		{[]int{0}, "[|10|?20:30]"}, {[]int{1}, "[10?|20|:30]"}, {[]int{2}, "[10?20:|30|]"},
		{[]int{0}, "{a=|10|;20}"}, {[]int{1}, "{a=10;|20|}"}, {[]int{0}, "{|10|;20}"}, {[]int{1}, "{10;|20|}"},
		{[]int{0}, "H(|A()|)"}, {[]int{0}, "H(|A()|,!1)"}, {[]int{1}, "H(A(),|!1|)"},
		{[]int{0}, "H(|10|,20,30)"}, {[]int{1}, "H(10,|20|,30)"}, {[]int{2}, "H(10,20,|30|)"},
		{[]int{1, 1, 1}, "{a={b=1;2};{c=3;{d=4;|{e=5;f}|}}}"},
		{[]int{0, 1, 2}, "{[(1+2)?3:4];5}"},
		{[]int{0, 2}, "{[(1+2)?3:|4|];5}"},
	} {
		text, from, to := "", -1, -1
		for _, r := range c.text {
			switch {
			case r != '|':
				text += string(r)
			case from < 0:
				from = len(text)
			default:
				to = len(text)
			}
		}
		e := exprOf(t, text)
		place, ok := impl.SpanAt(e, c.path)
		if from < 0 {
			if ok || place != (impl.Span{}) {
				t.Errorf("SpanAt of %v in %s = %v, %v, want none", c.path, text, place, ok)
			}
			continue
		}
		if !ok || place != (impl.Span{From: from, To: to}) {
			t.Errorf("SpanAt of %v in %s = %v, %v, want %d to %d", c.path, text, place, ok, from, to)
		}
		part, ok := impl.PartAt(e, c.path)
		wantExpr(t, "PartAt in "+text, part, ok, text[from:to])
	}
}

func TestPathsOfEachKind(t *testing.T) {
	for text, want := range map[string]string{
		"7":                                 ".",
		"a":                                 ".",
		"A()":                               ".",
		"!1":                                ". 0",
		"(1+2)":                             ". 0 1",
		"{a=1;2}":                           ". 0 1",
		"[1?2:3]":                           ". 0 1 2",
		"A(1,2,3)":                          ". 0 1 2",
		"A(!1,!2,!3)":                       ". 0 00 1 10 2 20",
		"{a=(1+2);{(3<4);!5}}":              ". 0 00 01 1 10 100 101 11 110",
		"[[[1?2:3]?4:5]?[6?7:8]:[9?10:11]]": ". 0 00 000 001 002 01 02 1 10 11 12 2 20 21 22",
	} {
		wantPathTexts(t, "PathsOf "+text, impl.PathsOf(exprOf(t, text)), want)
	}
}

func TestPathsOfCalls(t *testing.T) {
	e := exprOf(t, "{a=A(B(1),A(a));[B(A(B(A())))?H():(A(1,2)+a)]}")
	for name, want := range []string{"0 01 100 10000 120", "00 10 1000", "", "", "", "", "", "11"} {
		wantPathTexts(t, "CallPaths", impl.CallPaths(e, name), want)
	}
	for _, name := range []int{-1, 8, 1 << 62, -1 << 63} {
		wantPathTexts(t, "CallPaths", impl.CallPaths(e, name), "")
	}
	wantPathTexts(t, "CallPaths", impl.CallPaths(exprOf(t, "A(A())"), 0), ". 0")
	wantPathTexts(t, "CallPaths", impl.CallPaths(exprOf(t, "{a=0;(0+a)}"), 0), "")
	wantPathTexts(t, "CallPaths", impl.CallPaths(num(3), 3), "")
}

func TestReplacedParts(t *testing.T) {
	for _, c := range []struct {
		text string
		path []int
		by   string
		want string
	}{
		{"7", nil, "(1+2)", "(1+2)"},
		{"(a+B(1))", nil, "a", "a"},
		{"(a+B(1))", []int{0}, "A(2)", "(A(2)+B(1))"},
		{"(a+B(1))", []int{1}, "b", "(a+b)"},
		{"(a+B(1))", []int{1, 0}, "B(1)", "(a+B(B(1)))"},
		{"[1?2:3]", []int{2}, "[1?2:3]", "[1?2:[1?2:3]]"},
		{"A(1,2,3)", []int{1}, "!4", "A(1,!4,3)"},
		{"{1;2}", []int{0}, "3", "{3;2}"},
		// The operands of a binding: what stands in the second one becomes bound.
		{"{a=1;2}", []int{0}, "a", "{a=a;2}"},
		{"{a=1;2}", []int{1}, "a", "{a=1;a}"},
		{"{a=1;{b=2;3}}", []int{1, 1}, "(a+{b=b;c})", "{a=1;{b=2;(a+{b=b;c})}}"},
		{"{a={b=1;2};b}", []int{0, 1}, "(a+b)", "{a={b=1;(a+b)};b}"},
	} {
		e, x := exprOf(t, c.text), exprOf(t, c.by)
		got, ok := impl.ReplaceAt(e, c.path, x)
		wantExpr(t, "ReplaceAt "+c.text, got, ok, c.want)
	}
}

func TestReplacedPartsAtTheLimits(t *testing.T) {
	for _, c := range []struct {
		e    impl.Expr
		path []int
		x    impl.Expr
		want bool
	}{
		{chain(14), nil, chain(14), true},
		{chain(13), make([]int, 12), chain(2), true},
		{chain(13), make([]int, 12), chain(3), false},
		{chain(14), make([]int, 13), num(7), true},
		{chain(14), make([]int, 13), chain(2), false},
		{chain(14), make([]int, 12), chain(2), true},
		{chain(14), []int{0}, chain(13), true},
		{chain(14), []int{0}, chain(14), false},
		{add(num(1), chain(13)), []int{0}, chain(13), true},
		{add(num(1), chain(13)), []int{0}, chain(14), false},
		{wide(80), nil, wide(80), true},
		{add(num(1), wide(77)), []int{0}, out(num(1)), true},
		{add(num(1), wide(77)), []int{0}, add(num(1), num(2)), false},
		{add(num(1), wide(77)), []int{1}, wide(78), true},
		{add(num(1), wide(77)), []int{1}, wide(79), false},
		{add(num(1), num(2)), []int{1}, wide(80), false},
	} {
		got, ok := impl.ReplaceAt(c.e, c.path, c.x)
		if !c.want {
			wantNoExpr(t, "ReplaceAt of "+textOf(c.e), got, ok)
		} else if !ok || !sameTree(got, replacedAtByRule(c.e, c.path, c.x)) {
			t.Errorf("ReplaceAt of %s = %v, %v", textOf(c.e), got, ok)
		}
	}
}

// checkPlaces compares the functions with the rules, for each part of a valid expression.
func checkPlaces(t *testing.T, e, x impl.Expr) {
	t.Helper()
	text := textOf(e)
	paths := pathsByRule(e)
	wantPaths(t, "PathsOf "+text, impl.PathsOf(e), paths)
	calls := map[int][][]int{}
	for _, path := range paths {
		part, _ := partByRule(e, path)
		if part.Op == impl.OpCall {
			calls[part.N] = append(calls[part.N], path)
		}
		got, ok := impl.PartAt(e, path)
		wantSameResult(t, "PartAt in "+text, got, ok, part, true)
		place, ok := impl.SpanAt(e, path)
		if want := spanByRule(e, path); !ok || place != want || text[place.From:place.To] != textOf(part) {
			t.Errorf("SpanAt %v in %s = %v, %v, want %v", path, text, place, ok, want)
		}
		want := replacedAtByRule(e, path, x)
		got, ok = impl.ReplaceAt(e, path, x)
		if !impl.ExprValid(want, allVars) {
			wantNoExpr(t, "ReplaceAt in "+text, got, ok)
			continue
		}
		wantSameResult(t, "ReplaceAt in "+text, got, ok, want, true)
		// The text is that with one edit, at this place.
		wantEdited(t, text, []impl.Edit{{From: place.From, To: place.To, Text: textOf(x)}}, textOf(want), true)
	}
	for name := range impl.MaxFuns {
		wantPaths(t, "CallPaths in "+text, impl.CallPaths(e, name), calls[name])
	}
}

func TestPlacesInSmallExprs(t *testing.T) {
	for i, e := range smallExprs(3) {
		if i%5 == 0 {
			checkPlaces(t, e, add(variable(1), num(10)))
		}
	}
}

func TestPlacesInRandomExprs(t *testing.T) {
	r := rand.New(rand.NewSource(26))
	for range 2000 {
		e, x := validPair(r)
		checkPlaces(t, e, x)
	}
	for _, e := range append(nested(14), chain(14), wide(80), closedWide(80)) {
		checkPlaces(t, e, num(10))
		checkPlaces(t, e, out(num(1)))
	}
}

func TestPathsWithoutParts(t *testing.T) {
	x := num(3)
	for _, text := range []string{"7", "a", "A()", "!1", "(a+B(1,{c=2;!c}))", "[a?{1;2}:3]", "A(1,!2,3)", "A(A(1))", "{a=1;{b=2;c}}"} {
		e := exprOf(t, text)
		for _, path := range noPaths(e) {
			got, ok := impl.PartAt(e, path)
			wantNoExpr(t, "PartAt in "+text, got, ok)
			got, ok = impl.ReplaceAt(e, path, x)
			wantNoExpr(t, "ReplaceAt in "+text, got, ok)
			if place, ok := impl.SpanAt(e, path); ok || place != (impl.Span{}) {
				t.Errorf("SpanAt %v in %s = %v, %v", path, text, place, ok)
			}
		}
	}
}

// PartAt alone takes expressions that are not valid.
func TestPartsOfInvalidExprsAtPaths(t *testing.T) {
	for what, e := range invalidExprs() {
		for _, x := range []impl.Expr{e, out(e), call(0, num(1), e, num(2)), let(9, e, e), {Op: 77, N: -5, Kids: []impl.Expr{num(1), e}}} {
			checkParts(t, what, x, nil)
			for i, kid := range x.Kids {
				checkParts(t, what, x, []int{i})
				for j := range kid.Kids {
					checkParts(t, what, x, []int{i, j})
				}
				got, ok := impl.PartAt(x, []int{i, len(kid.Kids)})
				wantNoExpr(t, "PartAt in "+what, got, ok)
			}
		}
	}
	e := call(0, num(1), num(2), num(3), num(4), out(num(500)))
	checkParts(t, "call with 5 arguments", e, []int{3})
	checkParts(t, "call with 5 arguments", e, []int{4, 0})
}

func checkParts(t *testing.T, what string, e impl.Expr, path []int) {
	t.Helper()
	got, ok := impl.PartAt(e, path)
	want, _ := partByRule(e, path)
	if !ok || !sameTree(got, want) {
		t.Errorf("PartAt %v in %s = %v, %v", path, what, got, ok)
	}
}

// With a small stack, calls within each other would not get to the end of it.
func TestPartsOfLargeExprsAtPaths(t *testing.T) {
	defer debug.SetMaxStack(debug.SetMaxStack(1 << 20))
	const depth = 200000
	e := chain(depth)
	for _, n := range []int{0, 1, 1000, depth - 1} {
		part, ok := impl.PartAt(e, make([]int, n))
		if !ok || impl.SizeOf(part) != depth-n {
			t.Errorf("PartAt with %d indices has %d nodes, %v", n, impl.SizeOf(part), ok)
		}
	}
	part, ok := impl.PartAt(e, make([]int, depth))
	wantNoExpr(t, "PartAt below the last level", part, ok)
	if got, ok := impl.PartAt(call(0, make([]impl.Expr, 1000000)...), []int{999999}); !ok || !isZero(got) {
		t.Errorf("PartAt in a wide call = %v, %v", got, ok)
	}
}

// A part that contains itself is none; one beside it is.
func TestPartsOfEndlessExprs(t *testing.T) {
	for _, e := range endlessExprs() {
		got, ok := impl.PartAt(e, nil)
		wantNoExpr(t, "PartAt of an endless expression", got, ok)
		for i, x := range []impl.Expr{call(0, num(1), e, out(num(2))), let(0, num(1), seq(e, num(2)))} {
			got, ok = impl.PartAt(x, []int{0})
			wantExpr(t, "PartAt in front of an endless part", got, ok, "1")
			got, ok = impl.PartAt(x, []int{1})
			wantNoExpr(t, "PartAt of an endless part", got, ok)
			path := [][]int{{2, 0}, {1, 1}}[i]
			got, ok = impl.PartAt(x, path)
			wantExpr(t, "PartAt behind an endless part", got, ok, "2")
		}
	}
	e := endlessExprs()[0]
	got, ok := impl.PartAt(e, make([]int, 1000))
	wantNoExpr(t, "PartAt far down", got, ok)
}
