package tests

import (
	"strings"
	"testing"

	"loop.example/apimigrator/impl"
)

func TestCallsOfLibraries(t *testing.T) {
	const (
		plain  = "A2=(a+b)\nB1~A(a,1)\nC1~B(!a)\nD0=7\n"
		circle = "A1=B(a)\nB1~C(a)\nC1=A(a)\nD1=A(a)\nE0=E()\nF0=1\n"
		star   = "A0~1\nB0=(A()+C())\nC0~(A()+H())\nH0~A()\n"
	)
	cases := []struct {
		lib, text string
		from, old []int
	}{
		{"", "1", nil, nil},
		{"", "a", nil, nil},
		{plain, "1", nil, nil},
		{plain, "(a+b)", nil, nil},
		{plain, "D()", []int{3}, nil},
		{plain, "A(1,2)", []int{0}, nil},
		{plain, "B(1)", []int{0, 1}, []int{1}},
		{plain, "C(1)", []int{0, 1, 2}, []int{2}},
		{plain, "C(h)", []int{0, 1, 2}, []int{2}},
		{plain, "(C(1)+A(2,3))", []int{0, 1, 2}, []int{2}},
		{plain, "{C(1);{B(2);D()}}", []int{0, 1, 2, 3}, []int{1, 2}},
		{plain, "C(B(D()))", []int{0, 1, 2, 3}, []int{1, 2}},
		{plain, "{a=B(1);{b=B(a);B(b)}}", []int{0, 1}, []int{1}},
		{plain, "[0?B(1):D()]", []int{0, 1, 3}, []int{1}},
		{circle, "A(1)", []int{0, 1, 2}, nil},
		{circle, "B(1)", []int{0, 1, 2}, []int{1}},
		{circle, "C(1)", []int{0, 1, 2}, nil},
		{circle, "D(1)", []int{0, 1, 2, 3}, nil},
		{circle, "E()", []int{4}, nil},
		{circle, "(F()+E())", []int{4, 5}, nil},
		{circle, "{F();{E();D(B(1))}}", []int{0, 1, 2, 3, 4, 5}, []int{1}},
		{star, "B()", []int{0, 1, 2, 7}, nil},
		{star, "H()", []int{0, 7}, []int{7}},
		{star, "(H()+(C()+A()))", []int{0, 2, 7}, []int{0, 2, 7}},
		{"A0=A()\n", "A()", []int{0}, nil},
		{"A0~A()\n", "(A()+A())", []int{0}, []int{0}},
		{"H1~H(H(a))\n", "H(1)", []int{7}, []int{7}},
	}
	for _, c := range cases {
		lib, e := libraryOf(t, c.lib), exprOf(t, c.text)
		wantInts(t, "CallsFrom of "+c.text, impl.CallsFrom(lib, e), c.from...)
		wantInts(t, "OldCalls of "+c.text, impl.OldCalls(lib, e), c.old...)
	}
}

func TestCallsThatDoNotFitAreNotListed(t *testing.T) {
	lib := libraryOf(t, "A2=(a+b)\nB1~A(a,1)\nC0~B(1)\n")
	for _, text := range []string{"D()", "B()", "(B(1)+D())", "(B(1)+B(1,2))", "{C();A(1)}", "C(B(1))", "!{a=H();B(a)}"} {
		e := exprOf(t, text)
		wantInts(t, "CallsFrom of "+text, impl.CallsFrom(lib, e))
		wantInts(t, "OldCalls of "+text, impl.OldCalls(lib, e))
	}
	e := exprOf(t, "B(1)")
	wantInts(t, "CallsFrom without functions", impl.CallsFrom(nil, e))
	wantInts(t, "OldCalls without functions", impl.OldCalls(nil, e))
}

// reachable says by repeated passes what is called, also within others.
func reachable(arcs [4][4]bool, first int) []int {
	var in [4]bool
	in[first] = true
	for range arcs {
		for f := range arcs {
			for g := range arcs {
				in[g] = in[g] || in[f] && arcs[f][g]
			}
		}
	}
	var list []int
	for f, is := range in {
		if is {
			list = append(list, f)
		}
	}
	return list
}

// All graphs of calls among four functions.
func TestGraphsOfCalls(t *testing.T) {
	for bits := range 1 << 16 {
		var arcs [4][4]bool
		var lib []impl.Def
		for f := range 4 {
			body := num(f)
			for g := range 4 {
				arcs[f][g] = bits>>(4*f+g)&1 == 1
				if arcs[f][g] {
					body = add(call(g), body)
				}
			}
			lib = append(lib, def(f, 0, body))
		}
		for f := range 4 {
			wantInts(t, "CallsFrom in "+textOfLibrary(lib), impl.CallsFrom(lib, call(f)), reachable(arcs, f)...)
		}
		if t.Failed() {
			return
		}
	}
}

func TestLongCircle(t *testing.T) {
	for f := range impl.MaxFuns {
		wantInts(t, "CallsFrom", impl.CallsFrom(eightFuns(), call(f, num(1))), 0, 1, 2, 3, 4, 5, 6, 7)
	}
}

func TestFindDef(t *testing.T) {
	lib := []impl.Def{def(3, 0, num(1)), def(1, 0, num(1)), def(3, 1, num(2)), {Name: 100}, def(-5, 7, impl.Expr{}), def(1, 1, num(1)), {}}
	cases := []struct {
		name, want int
		ok         bool
	}{{3, 0, true}, {1, 1, true}, {100, 3, true}, {-5, 4, true}, {0, 6, true}, {2, 0, false}, {-1, 0, false}, {8, 0, false}}
	for _, c := range cases {
		if k, ok := impl.FindDef(lib, c.name); k != c.want || ok != c.ok {
			t.Errorf("FindDef(%d) = %d, %v", c.name, k, ok)
		}
		if k, ok := impl.FindDef(nil, c.name); k != 0 || ok {
			t.Errorf("FindDef(%d) without functions = %d, %v", c.name, k, ok)
		}
	}
	for f := range impl.MaxFuns {
		if k, ok := impl.FindDef(eightFuns(), f); k != f || !ok {
			t.Errorf("FindDef(%d) of 8 functions = %d, %v", f, k, ok)
		}
	}
}

func TestLibrarySame(t *testing.T) {
	libs := map[string][]impl.Def{
		"none":           nil,
		"one":            {def(0, 0, num(1))},
		"another Name":   {def(1, 0, num(1))},
		"another Arity":  {def(0, 1, num(1))},
		"out of use":     {oldDef(0, 0, num(1))},
		"another Body":   {def(0, 0, num(2))},
		"a deeper Body":  {def(0, 0, out(out(num(1))))},
		"another leaf":   {def(0, 0, out(out(num(2))))},
		"two":            {def(0, 0, num(1)), def(1, 0, num(1))},
		"another second": {def(0, 0, num(1)), def(1, 0, num(2))},
		"an old second":  {def(0, 0, num(1)), oldDef(1, 0, num(1))},
		"exchanged":      {def(1, 0, num(1)), def(0, 0, num(1))},
		"twice":          {def(0, 0, num(1)), def(0, 0, num(1))},
		"three":          {def(0, 0, num(1)), def(1, 0, num(1)), def(2, 0, num(1))},
		"zero values":    {{}, {}},
		"far":            {{Name: 1 << 40, Arity: -7, Body: num(500)}},
		"far, other":     {{Name: 1 << 40, Arity: -7, Body: num(501)}},
	}
	for i, a := range libs {
		for j, b := range libs {
			if got := impl.LibrarySame(a, clonedLibrary(b)); got != (i == j) {
				t.Errorf("LibrarySame of %s and %s = %v", i, j, got)
			}
		}
	}
	if !impl.LibrarySame(nil, []impl.Def{}) || !impl.LibrarySame([]impl.Def{}, nil) {
		t.Error("an empty library differs from none")
	}
	if !impl.LibrarySame([]impl.Def{def(0, 0, impl.Expr{Op: impl.OpNum, Kids: []impl.Expr{}})}, []impl.Def{def(0, 0, num(0))}) {
		t.Error("empty Kids differ from none")
	}
	for _, e := range endlessExprs() {
		if impl.LibrarySame([]impl.Def{def(0, 0, e)}, []impl.Def{def(0, 0, num(1))}) || impl.LibrarySame([]impl.Def{def(0, 0, num(1))}, []impl.Def{def(0, 0, e)}) {
			t.Error("an endless Body is the same as a number")
		}
	}
}

func TestSameOfInvalidLibraries(t *testing.T) {
	m := invalidLibraries()
	for i, a := range m {
		if strings.HasPrefix(i, "endless") {
			continue
		}
		for j, b := range m {
			if got, want := impl.LibrarySame(a, b), i == j; got != want {
				t.Errorf("LibrarySame of %s and %s = %v", i, j, got)
			}
		}
	}
}

func TestLibrariesStay(t *testing.T) {
	const text = "A2=(a+b)\nB1~A(a,1)\nC1~B(!a)\n"
	lib := append(make([]impl.Def, 0, 10), libraryOf(t, text)...)
	e := exprOf(t, "(C(1)+{a=B(2);A(2,a)})")
	before, clean := cloned(e), clonedLibrary(lib)
	for range 2 {
		impl.LibraryValid(lib)
		impl.LibrarySame(lib, lib)
		impl.FormatLibrary(lib)
		impl.FindDef(lib, 2)
		impl.CallsFit(lib, e)
		impl.ClientValid(lib, e)
		from, old := impl.CallsFrom(lib, e), impl.OldCalls(lib, e)
		wantInts(t, "CallsFrom", from, 0, 1, 2)
		wantInts(t, "OldCalls", old, 1, 2)
		from[0], old[0] = 77, 77
	}
	if !sameDefs(lib, clean) || !sameTree(e, before) {
		t.Errorf("the arguments became %q and %q", textOfLibrary(lib), textOf(e))
	}
	for _, d := range lib[len(lib):cap(lib)] {
		if d.Name != 0 || d.Arity != 0 || d.Old || !isZero(d.Body) {
			t.Error("memory beyond the length of a library was modified")
		}
	}
}
