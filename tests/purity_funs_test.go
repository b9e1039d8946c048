package tests

import (
	"math/rand"
	"testing"

	"loop.example/apimigrator/impl"
)

func TestEffectsOfFunctions(t *testing.T) {
	cases := []struct {
		lib           string
		quiet, ending []int
	}{
		{"", nil, nil},
		{"A0=1\n", []int{0}, []int{0}},
		{"H3~(a+c)\n", []int{7}, []int{7}},
		{"A1=!a\n", nil, []int{0}},
		{"A1=(1+{b=[a?!1:2];b})\n", nil, []int{0}},
		{"A0=A()\n", []int{0}, nil},
		{"A0=!A()\n", nil, nil},
		{"A1=[0?A(a):1]\n", []int{0}, nil},
		{purityLibrary, []int{0, 1, 3, 5, 6, 7}, []int{0, 1, 2, 4, 6, 7}},
		// What is called puts something out, directly and within others.
		{"A0=!1\nB0=A()\nC0=B()\nD0=(1+C())\nE0=1\n", []int{4}, []int{0, 1, 2, 3, 4}},
		{"A0=B()\nB0=C()\nC0=D()\nD0=!1\nE0=1\n", []int{4}, []int{0, 1, 2, 3, 4}},
		// A circle, a function before it, one behind it, and one beside it.
		{"A0=B()\nB0=C()\nC0=A()\nD0=A()\nE0=1\n", []int{0, 1, 2, 3, 4}, []int{4}},
		{"A0=B()\nB0=(C()+E())\nC0=A()\nD0=A()\nE0=1\n", []int{0, 1, 2, 3, 4}, []int{4}},
		{"A0=B()\nB0=(C()+E())\nC0=A()\nD0=A()\nE0=!1\n", nil, []int{4}},
		{"A0=B()\nB0=C()\nC0=!A()\nD0=A()\nE0=1\n", []int{4}, []int{4}},
		{"A0=!B()\nB0=C()\nC0=A()\nD0=1\nE0=D()\n", []int{3, 4}, []int{3, 4}},
		{"A0=B()\nB0=C()\nC0=A()\nD0=!A()\nE0=D()\n", []int{0, 1, 2}, nil},
		// Two circles, of which one leads to the other.
		{"A0=B()\nB0=(A()+C())\nC0=D()\nD0=C()\n", []int{0, 1, 2, 3}, nil},
		{"A0=B()\nB0=(A()+C())\nC0=D()\nD0=!C()\n", nil, nil},
		{"A0=B()\nB0=!(A()+C())\nC0=D()\nD0=C()\n", []int{2, 3}, nil},
		// A function that is called twice is no circle.
		{"A0=(B()+C())\nB0=D()\nC0=D()\nD0=1\n", []int{0, 1, 2, 3}, []int{0, 1, 2, 3}},
		{"A0=(B()+C())\nB0=D()\nC0=D()\nD0=D()\nF0=G()\nG0=1\n", []int{0, 1, 2, 3, 5, 6}, []int{5, 6}},
		// The parts that are not evaluated count.
		{"A0=[1?2:!3]\nB0=[0?A():1]\nC0=[1?2:C()]\nD0=[0?C():1]\n", []int{2, 3}, []int{0, 1}},
		// Arguments count.
		{"A1=a\nB0=A(!1)\nC1=A(C(a))\nD0=A(A(1))\n", []int{0, 2, 3}, []int{0, 1, 3}},
	}
	for _, c := range cases {
		lib := libraryOf(t, c.lib)
		wantInts(t, "QuietFuns of "+c.lib, impl.QuietFuns(lib), c.quiet...)
		wantInts(t, "EndingFuns of "+c.lib, impl.EndingFuns(lib), c.ending...)
	}
}

func checkEffects(t *testing.T, lib []impl.Def) {
	t.Helper()
	var quiet, ending []int
	quietSet, endingSet := quietByRule(lib), endingByRule(lib)
	for _, d := range lib {
		if quietSet[d.Name] {
			quiet = append(quiet, d.Name)
		}
		if endingSet[d.Name] {
			ending = append(ending, d.Name)
		}
	}
	text := textOfLibrary(lib)
	wantInts(t, "QuietFuns of "+text, impl.QuietFuns(lib), quiet...)
	wantInts(t, "EndingFuns of "+text, impl.EndingFuns(lib), ending...)
}

// All graphs of calls among three functions, with each choice of those that put something out.
func TestEffectsInAllGraphs(t *testing.T) {
	names := []int{0, 3, 7}
	for bits := range 1 << 12 {
		var lib []impl.Def
		for i, f := range names {
			body := num(f)
			if bits>>(9+i)&1 == 1 {
				body = out(body)
			}
			for j, g := range names {
				if bits>>(3*i+j)&1 == 1 {
					body = add(call(g), body)
				}
			}
			lib = append(lib, def(f, 0, body))
		}
		checkEffects(t, lib)
		if t.Failed() {
			return
		}
	}
}

func TestEffectsInRandomLibraries(t *testing.T) {
	r := rand.New(rand.NewSource(8))
	for range 3000 {
		lib, _ := calmLibrary(r, 3)
		if impl.LibraryValid(lib) {
			checkEffects(t, lib)
		}
	}
}

// The effect is at one end of a chain of all functions, in either order of the names.
func TestEffectsInLongChains(t *testing.T) {
	for last := range impl.MaxFuns {
		for _, step := range []int{1, impl.MaxFuns - 1} {
			for _, end := range []impl.Expr{num(1), out(num(1)), call(last)} {
				var lib []impl.Def
				for f := range impl.MaxFuns {
					lib = append(lib, def(f, 0, call((f+step)%impl.MaxFuns)))
				}
				lib[last].Body = end
				checkEffects(t, lib)
			}
		}
	}
	checkEffects(t, eightFuns())
}

func TestEffectsInInvalidLibraries(t *testing.T) {
	for name, lib := range invalidLibraries() {
		wantInts(t, name+": QuietFuns", impl.QuietFuns(lib))
		wantInts(t, name+": EndingFuns", impl.EndingFuns(lib))
	}
	wantInts(t, "QuietFuns without functions", impl.QuietFuns(nil))
	wantInts(t, "EndingFuns without functions", impl.EndingFuns([]impl.Def{}))
}

func TestEffectsAreNewMemory(t *testing.T) {
	lib := append(make([]impl.Def, 0, 20), libraryOf(t, purityLibrary)...)
	clean := clonedLibrary(lib)
	e := exprOf(t, "(H(1,2,B(a))+{a=C(b);!a})")
	before := cloned(e)
	for range 2 {
		quiet, ending := impl.QuietFuns(lib), impl.EndingFuns(lib)
		wantInts(t, "QuietFuns", quiet, 0, 1, 3, 5, 6, 7)
		wantInts(t, "EndingFuns", ending, 0, 1, 2, 4, 6, 7)
		overwriteInts(quiet)
		wantInts(t, "EndingFuns", ending, 0, 1, 2, 4, 6, 7)
		overwriteInts(ending)
		if impl.IsPure(lib, e) || impl.IsAtom(e) || !impl.FirstVar(lib, e, 0) {
			t.Errorf("the effects of %s are wrong", textOf(e))
		}
		wantBound(t, lib, e, 200, 8)
	}
	if !sameDefs(lib, clean) || !sameTree(e, before) {
		t.Errorf("the arguments became %q and %q", textOfLibrary(lib), textOf(e))
	}
	for _, d := range lib[len(lib):cap(lib)] {
		if d.Name != 0 || d.Arity != 0 || d.Old || !isZero(d.Body) {
			t.Error("memory beyond the length of a library was modified")
		}
	}
}
