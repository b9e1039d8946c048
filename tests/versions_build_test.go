package tests

import (
	"math/rand"
	"slices"
	"testing"

	"loop.example/apimigrator/impl"
)

func TestRetireFun(t *testing.T) {
	const text = "A1=a\nB1~A(a)\nD0=7\n"
	for name, want := range map[int]string{
		0: "A1~a\nB1~A(a)\nD0=7\n", 3: "A1=a\nB1~A(a)\nD0~7\n",
		// It is out of use already, or there is none.
		1: "-", 2: "-", 4: "-", 7: "-", 8: "-", -1: "-", 1 << 62: "-", -1 << 63: "-",
	} {
		got, ok := impl.RetireFun(libraryOf(t, text), name)
		wantLibrary(t, "RetireFun", got, ok, want)
		got, ok = impl.RetireFun(nil, name)
		wantLibrary(t, "RetireFun without functions", got, ok, "-")
	}
	lib := eightFuns()
	for f := range impl.MaxFuns {
		next, ok := impl.RetireFun(lib, f)
		if _, again := impl.RetireFun(next, f); !ok || again || !slices.Equal(changeTexts(impl.ChangesOf(lib, next)), []string{"old " + string(rune('A'+f))}) {
			t.Errorf("RetireFun of %d = %s, %v", f, textOfLibrary(next), ok)
		}
		lib = next
	}
}

func TestRemoveFun(t *testing.T) {
	for _, c := range []struct {
		lib  string
		name int
		want string
	}{
		{"A1=a\n", 0, ""}, {"H0~1\n", 7, ""}, {"A1=a\nB1~A(a)\nC0=7\n", 1, "A1=a\nC0=7\n"}, {"A1=a\nB1~A(a)\nC0=7\n", 2, "A1=a\nB1~A(a)\n"},
		{"A0=1\nB0=2\nC0=3\n", 0, "B0=2\nC0=3\n"},
		// Another function calls it, in front or behind, also where the call is not evaluated.
		{"A1=a\nB1~A(a)\nC0=7\n", 0, "-"}, {"A1=B(a)\nB1=a\n", 1, "-"}, {"A0=1\nB0=[1?2:A()]\n", 0, "-"}, {"A0=1\nB0={a=!A();2}\n", 0, "-"},
		{"A1=B(a)\nB1=A(a)\n", 0, "-"}, {"A1=B(a)\nB1=A(a)\n", 1, "-"}, {"A1=B(a)\nB1=C(a)\nC1=a\n", 1, "-"}, {"A1=a\nB1=A(a)\nC1=A(B(a))\n", 1, "-"},
		// It calls others, or itself.
		{"A1=B(a)\nB1=a\n", 0, "B1=a\n"}, {"A1=A(a)\n", 0, ""}, {"A1=A(a)\nB0=1\n", 0, "B0=1\n"}, {"A1=A(a)\nB0=A(1)\n", 0, "-"}, {"A1=A(a)\nB0=A(1)\n", 1, "A1=A(a)\n"},
		{"A1=B(a)\nB1=B(A(a))\n", 1, "-"},
		// There is none.
		{"", 0, "-"}, {"A1=a\nC0=7\n", 1, "-"}, {"A1=a\nC0=7\n", 3, "-"}, {"A1=a\n", 8, "-"}, {"A1=a\n", -1, "-"}, {"A1=a\n", 1 << 62, "-"}, {"A1=a\n", -1 << 63, "-"},
	} {
		got, ok := impl.RemoveFun(libraryOf(t, c.lib), c.name)
		wantLibrary(t, "RemoveFun of "+string(rune('A'+c.name))+" in "+c.lib, got, ok, c.want)
	}
	for f := range impl.MaxFuns {
		got, ok := impl.RemoveFun(eightFuns(), f)
		wantLibrary(t, "RemoveFun of one of a circle", got, ok, "-")
	}
}

func TestAddFun(t *testing.T) {
	const text = "B1=a\nD0=B(1)\n"
	a, b := variable(0), variable(1)
	for _, c := range []struct {
		lib  string
		d    impl.Def
		want string
	}{
		{"", def(0, 0, num(1)), "A0=1\n"}, {"", oldDef(7, 3, add(a, variable(2))), "H3~(a+c)\n"},
		// At its place, in front of others, between them, or behind.
		{text, def(0, 1, a), "A1=a\n" + text}, {text, oldDef(2, 2, add(a, b)), "B1=a\nC2~(a+b)\nD0=B(1)\n"}, {text, def(4, 0, call(3)), text + "E0=D()\n"}, {text, def(7, 0, num(1)), text + "H0=1\n"},
		// It calls itself, or others.
		{"", def(0, 1, call(0, a)), "A1=A(a)\n"}, {text, def(0, 0, add(call(1, num(2)), call(3))), "A0=(B(2)+D())\n" + text}, {text, def(2, 1, call(2, call(2, a))), "B1=a\nC1=C(C(a))\nD0=B(1)\n"},
		// There is a function with this Name, also an equal one.
		{text, def(1, 1, a), "-"}, {text, def(1, 2, b), "-"}, {text, oldDef(3, 0, call(1, num(1))), "-"}, {text, def(3, 0, num(1)), "-"},
		// The function is not valid.
		{text, def(8, 0, num(1)), "-"}, {text, def(-1, 0, num(1)), "-"}, {text, def(1<<62, 0, num(1)), "-"}, {text, def(-1<<63, 0, num(1)), "-"},
		{text, def(0, -1, num(1)), "-"}, {text, def(0, 4, num(1)), "-"}, {text, def(0, 1<<62, num(1)), "-"}, {text, impl.Def{}, "-"}, {"", impl.Def{}, "-"}, {"", impl.Def{Name: 8}, "-"},
		{text, def(0, 0, a), "-"}, {text, def(0, 1, b), "-"}, {text, def(0, 0, let(0, a, num(1))), "-"}, {text, def(0, 0, let(0, num(1), a)), "A0={a=1;a}\n" + text},
		{text, def(0, 0, call(2)), "-"}, {text, def(0, 0, call(1)), "-"}, {text, def(0, 0, call(3, num(1))), "-"}, {text, def(0, 0, call(0, num(1))), "-"}, {text, def(0, 1, call(0)), "-"},
		{text, def(0, 0, choice(num(1), num(2), call(7))), "-"},
	} {
		got, ok := impl.AddFun(libraryOf(t, c.lib), c.d)
		wantLibrary(t, "AddFun to "+c.lib, got, ok, c.want)
	}
	for _, f := range []int{-1, 0, 4, 7, 8} {
		got, ok := impl.AddFun(eightFuns(), def(f, 0, num(1)))
		wantLibrary(t, "AddFun to 8 functions", got, ok, "-")
	}
	for what, e := range invalidExprs() {
		for _, body := range []impl.Expr{e, out(e)} {
			got, ok := impl.AddFun(libraryOf(t, text), def(2, 3, body))
			wantLibrary(t, "AddFun with "+what, got, ok, "-")
		}
	}
	for _, e := range endlessExprs() {
		got, ok := impl.AddFun(libraryOf(t, text), def(2, 3, e))
		wantLibrary(t, "AddFun of an endless Body", got, ok, "-")
	}
}

func TestAddFunAtTheLimits(t *testing.T) {
	for _, c := range []struct {
		body impl.Expr
		want bool
	}{{chain(14), true}, {chain(15), false}, {closedWide(80), true}, {closedWide(81), false}} {
		got, ok := impl.AddFun(libraryOf(t, "A0=1\n"), def(1, 0, c.body))
		if ok != c.want || ok && (len(got) != 2 || !sameTree(got[1].Body, c.body)) || !ok && len(got) != 0 {
			t.Errorf("AddFun of %s = %v, %v", textOf(c.body), got, ok)
		}
	}
}

// A function that nothing needs can be removed and added again, and what the
// functions make are versions with this one change.
func TestBuiltVersions(t *testing.T) {
	r := rand.New(rand.NewSource(36))
	count := map[string]int{}
	for range 4000 {
		lib, _, _ := versionsCase(r)
		for f := range impl.MaxFuns {
			d, in := defOf(lib, f)
			letter := string(rune('A' + f))
			retired, ok := impl.RetireFun(lib, f)
			if ok != (in && !d.Old) || ok && (!impl.LibraryValid(retired) || !slices.Equal(changeTexts(changesByRule(lib, retired)), []string{"old " + letter})) {
				t.Fatalf("RetireFun of %s in\n%sis %v\n%s", letter, textOfLibrary(lib), ok, textOfLibrary(retired))
			}
			needed := false
			for _, other := range lib {
				needed = needed || other.Name != f && namesIn(other.Body, impl.OpCall)[f]
			}
			removed, ok := impl.RemoveFun(lib, f)
			if ok != (in && !needed) || ok && (!impl.LibraryValid(removed) || !slices.Equal(changeTexts(changesByRule(lib, removed)), []string{"gone " + letter})) {
				t.Fatalf("RemoveFun of %s in\n%sis %v\n%s", letter, textOfLibrary(lib), ok, textOfLibrary(removed))
			}
			if !ok {
				count["stays"]++
				continue
			}
			count["removed"]++
			added, ok := impl.AddFun(removed, d)
			wantLibrary(t, "AddFun of "+letter+" again", added, ok, textOfLibrary(lib))
			if impl.ChainValid([][]impl.Def{lib, removed}) != d.Old || !impl.ChainValid([][]impl.Def{removed, lib}) {
				t.Fatalf("ChainValid without %s is wrong for\n%s", letter, textOfLibrary(lib))
			}
		}
	}
	wantCounts(t, count, map[string]int{"removed": 5000, "stays": 3000})
}
