package tests

import (
	"math/rand"
	"slices"
	"strings"
	"testing"

	"loop.example/apimigrator/impl"
)

func TestDifferences(t *testing.T) {
	for _, c := range []struct{ a, b, paths, edits string }{
		{"7", "7", "", ""},
		{"(a+B(1,2))", "(a+B(1,2))", "", ""},
		// The path of the expression itself.
		{"7", "8", ".", "0-1 8"},
		{"10", "a", ".", "0-2 a"},
		{"a", "A()", ".", "0-1 A()"},
		{"0", "a", ".", "0-1 a"},
		{"(1+2)", "(1<2)", ".", "0-5 (1<2)"},
		{"(1+2)", "{1;2}", ".", "0-5 {1;2}"},
		{"A(1,2)", "B(1,2)", ".", "0-6 B(1,2)"},
		{"A(1,2)", "A(1)", ".", "0-6 A(1)"},
		{"A()", "A(1)", ".", "0-3 A(1)"},
		{"!1", "!!1", "0", "1-2 !1"},
		// The operands of a binding, and a binding of another variable.
		{"{a=1;2}", "{a=3;2}", "0", "3-4 3"},
		{"{a=1;2}", "{a=1;a}", "1", "5-6 a"},
		{"{a=10;20}", "{a=!a;!a}", "0 1", "3-5 !a;6-8 !a"},
		{"{a=1;2}", "{b=1;2}", ".", "0-7 {b=1;2}"},
		{"{a=1;2}", "{1;2}", ".", "0-7 {1;2}"},
		{"{1;{a=1;a}}", "{1;{b=1;b}}", "1", "3-10 {b=1;b}"},
		{"{a=1;{b=2;3}}", "{a=1;{b=(4+5);3}}", "10", "8-9 (4+5)"},
		// The order of the parts.
		{"[a?1:2]", "[b?1:3]", "0 2", "1-2 b;5-6 3"},
		{"A(10,20,30)", "A(1,2,3)", "0 1 2", "2-4 1;5-7 2;8-10 3"},
		{"((1+2)+(3+4))", "((5+2)+(3+6))", "00 11", "2-3 5;10-11 6"},
		{"((1+2)+(3+4))", "((1<2)+(3+6))", "0 11", "1-6 (1<2);10-11 6"},
		{"((1+2)+3)", "(3+(1+2))", "0 1", "1-6 3;7-8 (1+2)"},
		{"(a+B(1,2))", "(a+{b=1;b})", "1", "3-9 {b=1;b}"},
	} {
		a, b := exprOf(t, c.a), exprOf(t, c.b)
		wantPathTexts(t, "DiffPaths from "+c.a+" to "+c.b, impl.DiffPaths(a, b), c.paths)
		var edits []string
		for _, x := range impl.EditsOf(a, b) {
			edits = append(edits, numberText(x.From)+"-"+numberText(x.To)+" "+x.Text)
		}
		if got := strings.Join(edits, ";"); got != c.edits {
			t.Errorf("EditsOf from %s to %s = %q, want %q", c.a, c.b, got, c.edits)
		}
		wantEdited(t, c.a, impl.EditsOf(a, b), c.b, true)
	}
}

func numberText(n int) string { return textOf(num(n)) }

// checkEdits compares the functions with the rules, and the text with the edits with the other one.
func checkEdits(t *testing.T, a, b impl.Expr) {
	t.Helper()
	what := " from " + textOf(a) + " to " + textOf(b)
	wantPaths(t, "DiffPaths"+what, impl.DiffPaths(a, b), diffByRule(a, b))
	edits := impl.EditsOf(a, b)
	if want := editsByRule(a, b); !slices.Equal(edits, want) {
		t.Errorf("EditsOf%s = %v, want %v", what, edits, want)
	}
	wantEdited(t, impl.FormatExpr(a), edits, impl.FormatExpr(b), true)
	if (len(edits) == 0) != (textOf(a) == textOf(b)) {
		t.Errorf("EditsOf%s are %d edits", what, len(edits))
	}
}

func TestEditsLeadFromTextToText(t *testing.T) {
	list := smallExprs(2)
	for _, a := range list {
		for _, b := range list {
			checkEdits(t, a, b)
		}
	}
}

func TestEditsLeadFromRandomTextToText(t *testing.T) {
	r := rand.New(rand.NewSource(9))
	few, many := 0, 0
	for range 10000 {
		a, b := validPair(r)
		checkEdits(t, a, b)
		checkEdits(t, b, a)
		if n := len(impl.DiffPaths(a, b)); n == 1 {
			few++
		} else if n > 1 {
			many++
		}
	}
	if few < 1000 || many < 1000 {
		t.Errorf("only %d and %d pairs with one and with more edits", few, many)
	}
}

// withLeaves is e with x in the place of each leaf.
func withLeaves(e, x impl.Expr) impl.Expr {
	if len(e.Kids) == 0 {
		return x
	}
	c := impl.Expr{Op: e.Op, N: e.N}
	for _, kid := range e.Kids {
		c.Kids = append(c.Kids, withLeaves(kid, x))
	}
	return c
}

func TestEditsAtTheLimits(t *testing.T) {
	large := []impl.Expr{chain(14), wide(80), closedWide(80), withLeaves(wide(80), num(99)), withLeaves(wide(79), call(7)), num(1)}
	for _, a := range large {
		for _, b := range large {
			checkEdits(t, a, b)
		}
	}
	if n := len(impl.EditsOf(wide(79), withLeaves(wide(79), num(10)))); n < 30 {
		t.Errorf("only %d edits", n)
	}
}

func TestApplyEdits(t *testing.T) {
	const text = "0123456789"
	for _, c := range []struct {
		list []impl.Edit
		want string
	}{
		{nil, text},
		{[]impl.Edit{}, text},
		{[]impl.Edit{{}}, text},
		{[]impl.Edit{{From: 3, To: 3}}, text},
		{[]impl.Edit{{From: 0, To: 0, Text: "x"}}, "x0123456789"},
		{[]impl.Edit{{From: 10, To: 10, Text: "x"}}, "0123456789x"},
		{[]impl.Edit{{From: 0, To: 10, Text: "x"}}, "x"},
		{[]impl.Edit{{From: 0, To: 10}}, ""},
		{[]impl.Edit{{From: 2, To: 4, Text: "xyz"}}, "01xyz456789"},
		{[]impl.Edit{{From: 0, To: 1, Text: "x"}, {From: 9, To: 10, Text: "y"}}, "x12345678y"},
		{[]impl.Edit{{From: 1, To: 2}, {From: 3, To: 4}, {From: 5, To: 6}}, "0246789"},
		// One edit right behind another one.
		{[]impl.Edit{{From: 1, To: 3, Text: "x"}, {From: 3, To: 5, Text: "y"}}, "0xy56789"},
		// Two edits at the same place.
		{[]impl.Edit{{From: 4, To: 4, Text: "x"}, {From: 4, To: 4, Text: "y"}}, "0123xy456789"},
		{[]impl.Edit{{From: 4, To: 4, Text: "y"}, {From: 4, To: 4, Text: "x"}}, "0123yx456789"},
		{[]impl.Edit{{From: 4, To: 4, Text: "x"}, {From: 4, To: 6, Text: "y"}}, "0123xy6789"},
		{[]impl.Edit{{From: 4, To: 6, Text: "x"}, {From: 6, To: 6, Text: "y"}}, "0123xy6789"},
		{[]impl.Edit{{From: 0, To: 0, Text: "x"}, {From: 0, To: 0, Text: "y"}, {From: 0, To: 0, Text: "z"}}, "xyz0123456789"},
		{[]impl.Edit{{From: 10, To: 10, Text: "x"}, {From: 10, To: 10, Text: "y"}}, "0123456789xy"},
		// What is put in is not edited again.
		{[]impl.Edit{{From: 0, To: 2, Text: "abcdefghij"}, {From: 2, To: 3, Text: "x"}}, "abcdefghijx3456789"},
	} {
		wantEdited(t, text, c.list, c.want, true)
	}
	wantEdited(t, "", nil, "", true)
	wantEdited(t, "", []impl.Edit{{Text: "x"}, {Text: "y"}}, "xy", true)
	// Places are counted in bytes, whatever they are.
	wantEdited(t, "ä\xff\x00é", []impl.Edit{{From: 1, To: 3, Text: "\n\x80"}, {From: 5, To: 6}}, "\xc3\n\x80\x00\xc3", true)
}

func TestEditsThatOverlapOrLieOutside(t *testing.T) {
	for _, list := range [][]impl.Edit{
		{{From: -1, To: 0}},
		{{From: -1, To: -1}},
		{{From: -1, To: 2}},
		{{From: -1 << 63, To: 1<<63 - 1}},
		{{From: 1, To: 0}},
		{{From: 3, To: -1}},
		{{From: 0, To: 4}},
		{{From: 3, To: 4}},
		{{From: 4, To: 4}},
		{{From: 4, To: 3}},
		{{From: 1, To: 1<<63 - 1}},
		{{From: 1<<63 - 1, To: 1<<63 - 1}},
		{{From: 0, To: 2}, {From: 1, To: 3}},
		{{From: 0, To: 2}, {From: 1, To: 1}},
		{{From: 0, To: 2}, {From: 0, To: 2}},
		{{From: 0, To: 1}, {From: 0, To: 1}},
		{{From: 1, To: 2}, {From: 1, To: 1}},
		{{From: 1, To: 1}, {From: 0, To: 0}},
		{{From: 2, To: 3}, {From: 0, To: 1}},
		{{From: 0, To: 1}, {From: 2, To: 4}},
		{{From: 0, To: 1}, {From: 2, To: 1}},
		{{From: 0, To: 3}, {From: 3, To: 3}, {From: 2, To: 3}},
		{{From: 0, To: 1}, {From: -1, To: 3}},
	} {
		for i := range list {
			list[i].Text = "x"
		}
		wantEdited(t, "abc", list, "", false)
	}
}

// All lists of up to two edits of short texts.
func TestSmallListsOfEdits(t *testing.T) {
	var all []impl.Edit
	for from := -1; from <= 4; from++ {
		for to := -1; to <= 4; to++ {
			all = append(all, impl.Edit{From: from, To: to}, impl.Edit{From: from, To: to, Text: "xy"})
		}
	}
	made := 0
	for n := range 4 {
		text := "abc"[:n]
		for _, x := range all {
			want, ok := editedByRule(text, []impl.Edit{x})
			wantEdited(t, text, []impl.Edit{x}, want, ok)
			for _, y := range all {
				want, ok := editedByRule(text, []impl.Edit{x, y})
				wantEdited(t, text, []impl.Edit{x, y}, want, ok)
				if ok {
					made++
				}
			}
		}
	}
	if made < 200 {
		t.Errorf("only %d lists of two edits are made", made)
	}
}

func TestLongTextsAndManyEdits(t *testing.T) {
	full := strings.Repeat("x", 2000)
	one := impl.Edit{Text: "y"}
	wantEdited(t, full, []impl.Edit{one}, "y"+full, true)
	wantEdited(t, full+"x", []impl.Edit{one}, "", false)
	wantEdited(t, full+"x", []impl.Edit{{To: 2001}}, "", false)
	wantEdited(t, full+"x", []impl.Edit{{}}, "", false)
	wantEdited(t, full, []impl.Edit{{From: 2000, To: 2000, Text: full}, {From: 2000, To: 2000, Text: full}}, full+full+full, true)
	wantEdited(t, "ab", []impl.Edit{{Text: full}}, full+"ab", true)
	wantEdited(t, "ab", []impl.Edit{{Text: full + "x"}}, "", false)
	wantEdited(t, "ab", []impl.Edit{{Text: full + "x"}, one}, "", false)
	wantEdited(t, "ab", []impl.Edit{one, {From: 1, To: 2, Text: full + "x"}}, "", false)
	wantEdited(t, "ab", []impl.Edit{one, {To: 2, Text: full + "x"}, {From: 2, To: 2}}, "", false)
	wantEdited(t, "", slices.Repeat([]impl.Edit{one}, 200), strings.Repeat("y", 200), true)
	wantEdited(t, "", slices.Repeat([]impl.Edit{one}, 201), "", false)
	wantEdited(t, "", slices.Repeat([]impl.Edit{{}}, 201), "", false)
	wantEdited(t, full, slices.Repeat([]impl.Edit{{Text: full}}, 200), strings.Repeat(full, 201), true)
	// The limits are for edits: without any, a text stays as it is.
	for _, text := range []string{full, full + "x", strings.Repeat("z", 1000000)} {
		wantEdited(t, text, nil, text, true)
		wantEdited(t, text, []impl.Edit{}, text, true)
	}
}
