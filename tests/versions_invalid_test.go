package tests

import (
	"slices"
	"strconv"
	"testing"

	"loop.example/apimigrator/impl"
)

func TestVersionsWithInvalidLibraries(t *testing.T) {
	good := libraryOf(t, "A1=a\nB1~A(a)\nC0=7\n")
	for what, lib := range allInvalidLibraries() {
		for _, p := range [][2][]impl.Def{{lib, good}, {good, lib}, {lib, lib}, {lib, nil}, {nil, lib}} {
			if list := impl.ChangesOf(p[0], p[1]); len(list) != 0 {
				t.Errorf("ChangesOf with %s = %v", what, list)
			}
			if level := impl.LevelOf(p[0], p[1]); level != impl.LevelSame {
				t.Errorf("LevelOf with %s = %d", what, level)
			}
			wantInts(t, "KeptFuns with "+what, impl.KeptFuns(p[0], p[1]))
			for _, e := range []impl.Expr{num(1), call(0), call(0, num(1)), call(2)} {
				if impl.FitsBoth(p[0], p[1], e) {
					t.Errorf("FitsBoth of %s with %s is true", textOf(e), what)
				}
			}
		}
		for name := -1; name <= impl.MaxFuns; name++ {
			got, ok := impl.RetireFun(lib, name)
			wantLibrary(t, "RetireFun with "+what, got, ok, "-")
			got, ok = impl.RemoveFun(lib, name)
			wantLibrary(t, "RemoveFun with "+what, got, ok, "-")
			got, ok = impl.AddFun(lib, def(name, 0, num(1)))
			wantLibrary(t, "AddFun with "+what, got, ok, "-")
		}
	}
}

// With the function at fault gone, or the one that is missing there, the
// libraries would be valid: they have to be so before.
func TestVersionsBuiltFromInvalidLibraries(t *testing.T) {
	for _, c := range []struct {
		lib  []impl.Def
		name int
	}{
		{[]impl.Def{def(0, 0, num(1)), def(1, 0, num(100))}, 1},
		{[]impl.Def{def(0, 0, num(1)), def(1, 0, call(2))}, 1},
		{[]impl.Def{def(1, 0, num(1)), def(0, 0, num(2))}, 0},
		{[]impl.Def{def(1, 0, num(1)), def(0, 0, num(2))}, 1},
		{[]impl.Def{def(0, 0, num(1)), def(0, 0, num(2))}, 0},
		{[]impl.Def{def(0, 4, num(1))}, 0},
		{[]impl.Def{{}}, 0},
		{[]impl.Def{def(8, 0, num(1))}, 8},
		{[]impl.Def{def(-1, 0, num(1))}, -1},
		{append(eightFuns(), def(8, 0, num(1))), 8},
	} {
		got, ok := impl.RemoveFun(c.lib, c.name)
		wantLibrary(t, "RemoveFun in "+textOfDefs(c.lib), got, ok, "-")
		got, ok = impl.RetireFun(c.lib, c.name)
		wantLibrary(t, "RetireFun in "+textOfDefs(c.lib), got, ok, "-")
	}
	for _, c := range []struct {
		lib []impl.Def
		d   impl.Def
	}{
		{[]impl.Def{def(0, 0, call(1))}, def(1, 0, num(1))},
		{[]impl.Def{def(1, 0, num(1)), def(0, 0, num(2))}, def(2, 0, num(1))},
		{[]impl.Def{def(1, 1, call(0, call(2, num(1)))), def(2, 1, num(1))}, def(0, 1, num(1))},
	} {
		got, ok := impl.AddFun(c.lib, c.d)
		wantLibrary(t, "AddFun to "+textOfDefs(c.lib), got, ok, "-")
	}
}

// textOfDefs names the functions, whose Bodies need not have texts.
func textOfDefs(lib []impl.Def) string {
	text := ""
	for _, d := range lib {
		text += " " + strconv.Itoa(d.Name)
	}
	return text
}

func TestFitsBothOfInvalidExprs(t *testing.T) {
	lib := libraryOf(t, "A1=a\nB1~A(a)\nC0=7\n")
	exprs := invalidExprs()
	for i, e := range endlessExprs() {
		exprs["endless "+strconv.Itoa(i)] = e
	}
	for what, e := range exprs {
		for _, x := range []impl.Expr{e, out(e), call(0, e), add(call(2), e), let(0, e, num(1))} {
			if impl.FitsBoth(lib, lib, x) || impl.FitsBoth(lib, nil, x) {
				t.Errorf("FitsBoth of %s is true", what)
			}
		}
	}
	for _, e := range []impl.Expr{wide(80), variable(0), call(0, variable(7)), call(0), call(3), call(7), call(2, num(1))} {
		if impl.FitsBoth(lib, lib, e) {
			t.Errorf("FitsBoth of %s is true, which is no client", textOf(e))
		}
	}
	for _, e := range []impl.Expr{closedWide(80), chain(14)} {
		if !impl.FitsBoth(lib, nil, e) {
			t.Errorf("FitsBoth of %s is false", textOf(e))
		}
	}
}

// building are the functions that make a version of a library with A, B and D, of which A is needed.
func building() map[string]func(lib []impl.Def, d impl.Def) ([]impl.Def, bool) {
	return map[string]func(lib []impl.Def, d impl.Def) ([]impl.Def, bool){
		"RetireFun of A":     func(lib []impl.Def, d impl.Def) ([]impl.Def, bool) { return impl.RetireFun(lib, 0) },
		"RetireFun of B":     func(lib []impl.Def, d impl.Def) ([]impl.Def, bool) { return impl.RetireFun(lib, 1) },
		"RetireFun of D":     func(lib []impl.Def, d impl.Def) ([]impl.Def, bool) { return impl.RetireFun(lib, 3) },
		"RemoveFun of A":     func(lib []impl.Def, d impl.Def) ([]impl.Def, bool) { return impl.RemoveFun(lib, 0) },
		"RemoveFun of B":     func(lib []impl.Def, d impl.Def) ([]impl.Def, bool) { return impl.RemoveFun(lib, 1) },
		"RemoveFun of D":     func(lib []impl.Def, d impl.Def) ([]impl.Def, bool) { return impl.RemoveFun(lib, 3) },
		"AddFun":             func(lib []impl.Def, d impl.Def) ([]impl.Def, bool) { return impl.AddFun(lib, d) },
		"AddFun with 4 args": func(lib []impl.Def, d impl.Def) ([]impl.Def, bool) { d.Arity = 4; return impl.AddFun(lib, d) },
	}
}

func TestBuiltVersionsAreNewMemory(t *testing.T) {
	const text = "A2=(a+(b+1))\nB1={c=A(a,!a);(c+c)}\nD0=!(B(1)+B(2))\n"
	for what, build := range building() {
		for f := range impl.MaxFuns {
			lib := append(libraryOf(t, text), oldDef(5, 0, num(5)), oldDef(6, 0, num(6)))[:3]
			d := def(f, 2, add(variable(0), out(variable(1))))
			got, _ := build(lib, d)
			want := clonedLibrary(got)
			if textOfLibrary(lib) != text || textOfLibrary(lib[3:5]) != "F0~5\nG0~6\n" || textOf(d.Body) != "(a+!b)" {
				t.Fatalf("%s changes its arguments to %s and %s", what, textOfLibrary(lib[:5]), textOf(d.Body))
			}
			overwrite(d.Body)
			for i, x := range lib[:5] {
				overwrite(x.Body)
				lib[:5][i] = impl.Def{Name: 77}
			}
			if !sameDefs(got, want) {
				t.Errorf("with changed arguments, %s became %v", what, got)
			}
			checkOwnBodies(t, got)
		}
	}
}

// The Bodies of an argument may share memory, but those of a result do not.
func TestVersionsOfSharedBodies(t *testing.T) {
	body := add(num(1), out(num(2)))
	for what, build := range building() {
		got, _ := build([]impl.Def{def(0, 0, body), def(1, 0, body), def(3, 0, body)}, def(2, 0, body))
		checkOwnBodies(t, got)
		if textOf(body) != "(1+!2)" || len(got) < 2 && what != "AddFun with 4 args" {
			t.Errorf("%s = %v", what, got)
		}
	}
}

func checkOwnBodies(t *testing.T, lib []impl.Def) {
	t.Helper()
	var all []impl.Expr
	for _, d := range lib {
		all = append(all, d.Body)
	}
	checkOwnMemory(t, call(0, all...))
}

func TestVersionsStay(t *testing.T) {
	const first, second = "A1=a\nB1~A(a)\nC0=7\n", "A1=a\nC0~7\nD2=A(b)\n"
	chain := append(chainOf(t, first, second), libraryOf(t, "H0=1\n"))[:2]
	a, b := chain[0], chain[1]
	e := exprOf(t, "{a=C();A(a)}")
	for range 2 {
		list, kept := impl.ChangesOf(a, b), impl.KeptFuns(a, b)
		if !slices.Equal(changeTexts(list), []string{"gone B", "old C", "new D"}) {
			t.Errorf("ChangesOf = %v", list)
		}
		wantInts(t, "KeptFuns", kept, 0, 2)
		if impl.LevelOf(a, b) != impl.LevelMajor || !impl.FitsBoth(a, b, e) || !impl.ChainValid(chain) {
			t.Error("LevelOf, FitsBoth or ChainValid is wrong")
		}
		list[0] = impl.Change{Kind: 77, Name: 77}
		overwriteInts(kept)
	}
	if textOfLibrary(a) != first || textOfLibrary(b) != second || textOf(e) != "{a=C();A(a)}" || textOfLibrary(chain[:3][2]) != "H0=1\n" {
		t.Errorf("the arguments became %s, %s, %s and %v", textOfLibrary(a), textOfLibrary(b), textOf(e), chain[:3])
	}
}
