package tests

import (
	"fmt"
	"math/rand"
	"slices"
	"strings"
	"testing"

	"loop.example/apimigrator/impl"
)

// partByRule goes down from operand to operand.
func partByRule(e impl.Expr, path []int) (impl.Expr, bool) {
	if len(path) == 0 {
		return e, true
	}
	for i, kid := range e.Kids {
		if i == path[0] {
			return partByRule(kid, path[1:])
		}
	}
	return impl.Expr{}, false
}

// replacedAtByRule is e with x at a path at which there is a part, without any limits.
func replacedAtByRule(e impl.Expr, path []int, x impl.Expr) impl.Expr {
	if len(path) == 0 {
		return x
	}
	c := impl.Expr{Op: e.Op, N: e.N, Kids: slices.Clone(e.Kids)}
	c.Kids[path[0]] = replacedAtByRule(c.Kids[path[0]], path[1:], x)
	return c
}

// pathsByRule collects the paths level by level. Those that stand in front of
// their operands, which are in order, are in the order of their indices.
func pathsByRule(e impl.Expr) [][]int {
	var all [][]int
	for level := [][]int{nil}; len(level) > 0; {
		all = append(all, level...)
		var next [][]int
		for _, path := range level {
			part, _ := partByRule(e, path)
			for i := range part.Kids {
				next = append(next, append(slices.Clone(path), i))
			}
		}
		level = next
	}
	slices.SortFunc(all, slices.Compare)
	return all
}

// spanByRule looks for a part in the text in which a sign stands in its place that no text has.
func spanByRule(e impl.Expr, path []int) impl.Span {
	part, _ := partByRule(e, path)
	marked := textOf(replacedAtByRule(e, path, variable('@'-'a')))
	from := strings.IndexByte(marked, '@')
	return impl.Span{From: from, To: from + len(textOf(part))}
}

func differAt(a, b impl.Expr) bool {
	return a.Op != b.Op || a.N != b.N || len(a.Kids) != len(b.Kids)
}

// diffByRule takes, of all paths, those at which a and b differ, and above which they do not.
func diffByRule(a, b impl.Expr) [][]int {
	var list [][]int
	for _, path := range pathsByRule(a) {
		differ := false
		for n := range len(path) + 1 {
			x, _ := partByRule(a, path[:n])
			y, ok := partByRule(b, path[:n])
			differ = ok && differAt(x, y)
			if !ok || differ && n < len(path) {
				differ = false
				break
			}
		}
		if differ {
			list = append(list, path)
		}
	}
	return list
}

func editsByRule(a, b impl.Expr) []impl.Edit {
	var list []impl.Edit
	for _, path := range diffByRule(a, b) {
		place := spanByRule(a, path)
		part, _ := partByRule(b, path)
		list = append(list, impl.Edit{From: place.From, To: place.To, Text: textOf(part)})
	}
	return list
}

// editedByRule makes the edits from the last one to the first one, so that the
// places of those to come stay where they are.
func editedByRule(text string, list []impl.Edit) (string, bool) {
	long := len(text) > 2000 || len(list) > 200
	before := 0
	for _, x := range list {
		if x.From < before || x.To < x.From || x.To > len(text) {
			return "", false
		}
		before = x.To
		long = long || len(x.Text) > 2000
	}
	if len(list) > 0 && long {
		return "", false
	}
	for _, x := range slices.Backward(list) {
		text = text[:x.From] + x.Text + text[x.To:]
	}
	return text, true
}

func wantPaths(t *testing.T, what string, got, want [][]int) {
	t.Helper()
	if !slices.EqualFunc(got, want, slices.Equal) {
		t.Errorf("%s = %v, want %v", what, got, want)
	}
}

// wantPathTexts compares paths with one text, in which each is written without separators; the empty one as a dot.
func wantPathTexts(t *testing.T, what string, got [][]int, want string) {
	t.Helper()
	var texts []string
	for _, path := range got {
		text := strings.Trim(strings.ReplaceAll(fmt.Sprint(path), " ", ""), "[]")
		if text == "" {
			text = "."
		}
		texts = append(texts, text)
	}
	if all := strings.Join(texts, " "); all != want {
		t.Errorf("%s = %q, want %q", what, all, want)
	}
}

func wantEdited(t *testing.T, text string, list []impl.Edit, want string, wantOk bool) {
	t.Helper()
	got, ok := impl.ApplyEdits(text, list)
	if ok != wantOk || got != want {
		t.Errorf("ApplyEdits(%.60q, %.200v) = %.60q, %v, want %.60q, %v", text, list, got, ok, want, wantOk)
	}
}

// noPaths are paths at which e has no part, among them some that leave e at each of its parts.
func noPaths(e impl.Expr) [][]int {
	list := [][]int{{-1}, {len(e.Kids)}, {3}, {1 << 62}, {-1 << 63}, {-1, 0}, {0, -1}, make([]int, 100), slices.Repeat([]int{1}, 100)}
	for _, path := range pathsByRule(e) {
		part, _ := partByRule(e, path)
		for _, i := range []int{-1, len(part.Kids), len(part.Kids) + 1, 1 << 40} {
			list = append(list, append(slices.Clone(path), i), append(slices.Clone(path), i, 0), append(slices.Clone(path), 0, i))
		}
	}
	return slices.DeleteFunc(list, func(path []int) bool {
		_, ok := partByRule(e, path)
		return ok
	})
}

// otherParts is e with other parts at a few places.
func otherParts(r *rand.Rand, e impl.Expr, arities map[int]int) impl.Expr {
	for range r.Intn(4) {
		paths := pathsByRule(e)
		x := randomExpr(r, 1+r.Intn(3), allVars[:3], arities)
		e = replacedAtByRule(e, paths[r.Intn(len(paths))], x)
	}
	return e
}

// validPair are two valid expressions, the second of which often has many parts of the first.
func validPair(r *rand.Rand) (a, b impl.Expr) {
	arities := map[int]int{0: 0, 1: 1, 4: 2, 7: 3}
	for {
		a = randomExpr(r, 2+r.Intn(5), allVars[:3], arities)
		b = otherParts(r, a, arities)
		if r.Intn(8) == 0 {
			b = randomExpr(r, 2+r.Intn(5), allVars[:3], arities)
		}
		if impl.ExprValid(a, allVars) && impl.ExprValid(b, allVars) {
			return a, cloned(b)
		}
	}
}
