package tests

import (
	"slices"
	"strconv"
	"testing"

	"loop.example/apimigrator/impl"
)

// wantNoPlaces is for an expression that is not valid.
func wantNoPlaces(t *testing.T, what string, e impl.Expr) {
	t.Helper()
	good := add(num(1), call(0, variable(0)))
	for _, path := range [][]int{nil, {0}, {1}, {1, 0}, {-1}} {
		got, ok := impl.ReplaceAt(e, path, good)
		wantNoExpr(t, "ReplaceAt in "+what, got, ok)
		got, ok = impl.ReplaceAt(good, path, e)
		wantNoExpr(t, "ReplaceAt by "+what, got, ok)
		if place, ok := impl.SpanAt(e, path); ok || place != (impl.Span{}) {
			t.Errorf("SpanAt %v in %s = %v, %v", path, what, place, ok)
		}
	}
	if list := impl.PathsOf(e); len(list) != 0 {
		t.Errorf("PathsOf %s = %v", what, list)
	}
	for name := -1; name <= impl.MaxFuns; name++ {
		if list := impl.CallPaths(e, name); len(list) != 0 {
			t.Errorf("CallPaths in %s = %v", what, list)
		}
	}
	for _, p := range [][2]impl.Expr{{e, good}, {good, e}, {e, e}, {e, num(1)}, {num(1), e}, {e, cloned(good)}} {
		if list := impl.DiffPaths(p[0], p[1]); len(list) != 0 {
			t.Errorf("DiffPaths with %s = %v", what, list)
		}
		if list := impl.EditsOf(p[0], p[1]); len(list) != 0 {
			t.Errorf("EditsOf with %s = %v", what, list)
		}
	}
}

func TestPlacesInInvalidExprs(t *testing.T) {
	exprs := invalidExprs()
	for i, e := range endlessExprs() {
		exprs["endless "+strconv.Itoa(i)] = e
	}
	for what, e := range exprs {
		for _, x := range []impl.Expr{e, out(e), add(call(0, num(1)), e), call(0, num(1), num(2), e), let(0, e, num(1)), let(0, num(1), e)} {
			wantNoPlaces(t, what, x)
		}
	}
}

// Without the part in question, the result would be valid.
func TestReplacedPartsThatAreNotValid(t *testing.T) {
	for what, x := range invalidExprs() {
		got, ok := impl.ReplaceAt(add(x, num(1)), []int{0}, num(2))
		wantNoExpr(t, "ReplaceAt of "+what, got, ok)
		got, ok = impl.ReplaceAt(x, nil, num(2))
		wantNoExpr(t, "ReplaceAt of "+what+" itself", got, ok)
	}
	// The expression is too large, and the part is what makes it so.
	got, ok := impl.ReplaceAt(add(num(1), wide(79)), []int{1}, num(2))
	wantNoExpr(t, "ReplaceAt with 81 nodes", got, ok)
	got, ok = impl.ReplaceAt(out(chain(14)), []int{0}, num(2))
	wantNoExpr(t, "ReplaceAt with a depth of 15", got, ok)
}

func TestPlacesAreNewMemory(t *testing.T) {
	const text, by = "{a=A((b+1),!2);[a?A(b):{3;(a+4)}]}", "(1+!(b<2))"
	for _, path := range pathsByRule(exprOf(t, text)) {
		e, x := exprOf(t, text), exprOf(t, by)
		wide := append(slices.Clone(path), 77, 77)[:len(path)]
		part, _ := impl.PartAt(e, wide)
		got, _ := impl.ReplaceAt(e, wide, x)
		impl.SpanAt(e, wide)
		if textOf(e) != text || textOf(x) != by || !slices.Equal(wide[:len(path)+2], append(slices.Clone(path), 77, 77)) {
			t.Fatalf("the arguments became %s, %s and %v", textOf(e), textOf(x), wide[:len(path)+2])
		}
		wantPart, want := cloned(part), cloned(got)
		overwrite(e)
		overwrite(x)
		if !sameTree(part, wantPart) || !sameTree(got, want) {
			t.Errorf("with changed arguments, the results became %s and %s", textOf(wantPart), textOf(want))
		}
		checkOwnMemory(t, part)
		checkOwnMemory(t, got)
		growAll(part)
		growAll(got)
		if !sameTree(part, wantPart) || !sameTree(got, want) {
			t.Errorf("grown, the results became %s and %s", textOf(wantPart), textOf(want))
		}
	}
}

// The operands of an argument may share memory, but those of a result do not.
func TestPlacesInSharedParts(t *testing.T) {
	x := add(num(1), out(num(2)))
	e := add(x, call(0, x, x))
	for _, path := range [][]int{nil, {0}, {1}, {1, 1}} {
		part, ok := impl.PartAt(e, path)
		want, _ := partByRule(e, path)
		wantSameResult(t, "PartAt", part, ok, want, true)
		checkOwnMemory(t, part)
		got, ok := impl.ReplaceAt(e, path, x)
		wantSameResult(t, "ReplaceAt", got, ok, replacedAtByRule(e, path, x), true)
		checkOwnMemory(t, got)
	}
	if textOf(e) != "((1+!2)+A((1+!2),(1+!2)))" {
		t.Errorf("the argument became %s", textOf(e))
	}
}

// checkOwnPaths changes each path, also behind its end, and looks at the others.
func checkOwnPaths(t *testing.T, what string, list [][]int) {
	t.Helper()
	if len(list) == 0 {
		t.Errorf("%s are none", what)
	}
	var want [][]int
	for _, path := range list {
		want = append(want, slices.Clone(path))
	}
	for i, path := range list {
		overwriteInts(path[:cap(path)])
		for k := range list {
			if k > i && !slices.Equal(list[k], want[k]) {
				t.Fatalf("%s: the path %v became %v with another one", what, want[k], list[k])
			}
		}
	}
}

func TestPathsAreNewMemory(t *testing.T) {
	a := exprOf(t, "{a=A((b+1),!2);[a?A(b):{3;(a+A(4))}]}")
	b := exprOf(t, "{a=A((b+2),!3);[b?A(c):{4;(1+A(5))}]}")
	for range 2 {
		checkOwnPaths(t, "PathsOf", impl.PathsOf(a))
		checkOwnPaths(t, "CallPaths", impl.CallPaths(a, 0))
		checkOwnPaths(t, "DiffPaths", impl.DiffPaths(a, b))
		edits := impl.EditsOf(a, b)
		if !slices.Equal(edits, editsByRule(a, b)) {
			t.Errorf("EditsOf = %v", edits)
		}
		for i := range edits {
			edits[i] = impl.Edit{From: 77, To: 77, Text: "77"}
		}
	}
	wantPaths(t, "PathsOf", impl.PathsOf(a), pathsByRule(a))
	if textOf(a) != "{a=A((b+1),!2);[a?A(b):{3;(a+A(4))}]}" || textOf(b) != "{a=A((b+2),!3);[b?A(c):{4;(1+A(5))}]}" {
		t.Errorf("the arguments became %s and %s", textOf(a), textOf(b))
	}
}

func TestEditsStay(t *testing.T) {
	list := []impl.Edit{{From: 0, To: 1, Text: "x"}, {From: 1, To: 1, Text: "y"}, {From: 9, To: 8, Text: "z"}}
	want := slices.Clone(list)
	for range 2 {
		wantEdited(t, "abc", list[:2], "xybc", true)
		wantEdited(t, "abc", list, "", false)
	}
	if !slices.Equal(list, want) {
		t.Errorf("the edits became %v", list)
	}
}
