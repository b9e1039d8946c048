package tests

import (
	"math/rand"
	"testing"

	"loop.example/apimigrator/impl"
)

// wantOrder gives the letters in their order, or - if there is none, and for each
// function from A on its level, or - if it has none.
func wantOrder(t *testing.T, lib []impl.Def, want, levels string) {
	t.Helper()
	text := ""
	order, ok := impl.OrderOfFuns(lib)
	for _, f := range order {
		text += string(rune('A' + f))
	}
	if ok != (want != "-") || ok && text != want || !ok && len(order) != 0 {
		t.Errorf("OrderOfFuns of %s = %v, %v, want %s", textOfLibrary(lib), order, ok, want)
	}
	for name := -2; name < 12; name++ {
		sign := byte('-')
		if name >= 0 && name < len(levels) {
			sign = levels[name]
		}
		n, ok := impl.LevelOfFun(lib, name)
		if ok != (sign != '-') || ok && n != int(sign-'0') || !ok && n != 0 {
			t.Errorf("LevelOfFun of %d in %s = %d, %v, want %c", name, textOfLibrary(lib), n, ok, sign)
		}
	}
}

func TestOrdersAndLevels(t *testing.T) {
	for _, c := range []struct{ lib, order, levels string }{
		{"", "", ""}, {"A0=1\n", "A", "0"}, {"H3~(a+c)\n", "H", "-------0"}, {"A0=1\nB0=2\nC0=3\n", "ABC", "000"},
		{"A1=(a+1)\nB1=A(A(a))\nC1=(A(a)+B(a))\nD0=7\n", "ABCD", "0120"},
		// The order of the names and that of the calls are opposite.
		{"A0=B()\nB0=C()\nC0=D()\nD0=1\n", "DCBA", "3210"},
		{"A1=B(a)\nB1=C(a)\nC1=D(a)\nD1=E(a)\nE1=F(a)\nF1=G(a)\nG1=H(a)\nH1=a\n", "HGFEDCBA", "76543210"},
		{"A1=a\nB1=A(a)\nC1=B(a)\nD1=C(a)\nE1=D(a)\nF1=E(a)\nG1=F(a)\nH1=G(a)\n", "ABCDEFGH", "01234567"},
		// The least function is the next one as soon as it can be, and not before.
		{"A0=C()\nB0=1\nC0=2\nD0=3\n", "BCAD", "1000"}, {"A0=C()\nB0=A()\nC0=2\nD0=3\n", "CABD", "1200"}, {"A0=D()\nB0=C()\nC0=1\nD0=2\n", "CBDA", "1100"},
		{"A0=H()\nB0=1\nC0=A()\nD0=2\nG0=3\nH0=4\n", "BDGHAC", "1020--00"}, {"A0=B()\nB0=1\nC0=D()\nD0=2\n", "BADC", "1010"},
		// A level is that of the longest way, in whatever order the calls stand.
		{"A0=(B()+C())\nB0=1\nC0=D()\nD0=2\n", "BDCA", "2010"}, {"A0=(C()+B())\nB0=1\nC0=D()\nD0=2\n", "BDCA", "2010"},
		{"A0=1\nB0=A()\nC0=B()\nD0=(C()+A())\nE0=(A()+C())\nF0=(A()+A())\n", "ABCDEF", "012331"},
		{"A0=(B()+C())\nB0=D()\nC0=D()\nD0=1\n", "DBCA", "2110"}, {"A0=(B()+(C()+D()))\nB0=(C()+D())\nC0=D()\nD0=1\n", "DCBA", "3210"},
		// Calls count wherever they are, also if they are not evaluated, and once.
		{"A1=a\nB1=A(A(A(a)))\nC1={a=[0?B(1):2];3}\nD1={!A(2);[1?2:C(1)]}\n", "ABCD", "0123"},
		// A function that calls itself, and what calls it.
		{"A0=A()\n", "-", "-"}, {"A0=1\nB0=B()\nC0=3\n", "-", "0-0"}, {"A1=[0?A(a):1]\nB0=2\n", "-", "-0"}, {"A0=B()\nB0=B()\nC0=D()\nD0=1\n", "-", "--10"},
		{"A0=1\nB0=(A()+C())\nC0=C()\nD0=A()\n", "-", "0--1"},
		// Circles, in front of others, behind others, and beside others.
		{"A0=B()\nB0=A()\n", "-", "--"}, {"A0=B()\nB0=C()\nC0=A()\n", "-", "---"}, {"A0=B()\nB0=D()\nC0=B()\nD0=C()\n", "-", "----"},
		{"A0=B()\nB0=(C()+E())\nC0=A()\nD0=A()\nE0=F()\nF0=1\n", "-", "----10"}, {"A0=1\nB0=A()\nC0=D()\nD0=C()\nE0=B()\n", "-", "01--2"},
		{"A0=1\nB0=H()\nG0=A()\nH0=B()\n", "-", "0-----1-"}, {"A0=(B()+C())\nB0=1\nC0=D()\nD0=C()\n", "-", "-0--"},
		// Functions out of use count like others.
		{"A0~B()\nB0~C()\nC0~1\n", "CBA", "210"}, {"A0~B()\nB0~A()\nC0~1\n", "-", "--0"},
	} {
		wantOrder(t, libraryOf(t, c.lib), c.order, c.levels)
	}
	wantOrder(t, eightFuns(), "-", "--------")
	for _, name := range []int{63, 64, 256, 1 << 32, 1 << 62, -1 << 63, -8, -256} {
		if n, ok := impl.LevelOfFun(libraryOf(t, "A0=1\n"), name); ok || n != 0 {
			t.Errorf("LevelOfFun of %d = %d, %v", name, n, ok)
		}
	}
}

// A valid library has either an order or a circle. It has an order if all of its
// functions are ending, and these are the functions that have a level.
func checkOrderOrCircle(t *testing.T, lib []impl.Def) {
	t.Helper()
	order, hasOrder := impl.OrderOfFuns(lib)
	circle, hasCircle := impl.CircleOf(lib)
	ending := impl.EndingFuns(lib)
	if hasOrder == hasCircle || hasOrder != (len(ending) == len(lib)) || hasCircle != (len(circle) > 0) {
		t.Errorf("%s has the order %v, %v, and the circle %v, %v", textOfLibrary(lib), order, hasOrder, circle, hasCircle)
	}
	var leveled []int
	for _, d := range lib {
		if _, ok := impl.LevelOfFun(lib, d.Name); ok {
			leveled = append(leveled, d.Name)
		}
	}
	wantInts(t, "the functions with levels of "+textOfLibrary(lib), leveled, ending...)
}

// All graphs of calls among three and among four functions.
func TestOrdersAndCirclesOfAllGraphs(t *testing.T) {
	count := map[string]int{}
	for bits := range 1 << 16 {
		libs := [][]impl.Def{libraryOfBits([]int{1, 2, 5, 6}, bits)}
		if bits < 1<<9 {
			libs = append(libs, libraryOfBits([]int{0, 3, 7}, bits))
		}
		for _, lib := range libs {
			checkOrderOrCircle(t, lib)
			// For all graphs, the rules take too long.
			if bits%5 == 0 || len(lib) == 3 {
				checkGraph(t, lib, count)
			}
		}
		if t.Failed() {
			return
		}
	}
	wantCounts(t, count, map[string]int{"order": 100, "circle": 10000, "circle of 1": 5000, "circle of 2": 1000, "circle of 3": 200, "circle of 4": 15})
}

func TestOrdersAndCirclesOfRandomGraphs(t *testing.T) {
	r := rand.New(rand.NewSource(62))
	count := map[string]int{}
	for i := range 3000 {
		lib := randomGraph(r, 1+r.Intn(3), i%3 == 0)
		checkGraph(t, lib, count)
		checkOrderOrCircle(t, lib)
		if lib, _ := calmLibrary(r, 3); impl.LibraryValid(lib) {
			checkGraph(t, lib, count)
			checkOrderOrCircle(t, lib)
		}
	}
	wantCounts(t, count, map[string]int{"order": 1500, "circle": 2000, "circle of 1": 500, "circle of 3": 200, "circle of 5": 50, "circle of 7": 5})
}

// A library can be built in its order: nothing that is called is missing then.
func TestLibrariesAreBuiltInTheirOrder(t *testing.T) {
	r := rand.New(rand.NewSource(63))
	built := 0
	for range 2000 {
		lib := randomGraph(r, 4, true)
		if r.Intn(2) == 0 {
			lib, _ = calmLibrary(r, 2)
		}
		order, ok := impl.OrderOfFuns(lib)
		if !ok {
			continue
		}
		var got []impl.Def
		for _, f := range order {
			d, _ := defOf(lib, f)
			if got, ok = impl.AddFun(got, d); !ok {
				t.Fatalf("in the order %v, %s cannot be added to build %s", order, textOf(call(f)), textOfLibrary(lib))
			}
		}
		if !sameDefs(got, lib) {
			t.Errorf("in the order %v, %s is built as %s", order, textOfLibrary(lib), textOfLibrary(got))
		}
		built++
	}
	wantCounts(t, map[string]int{"built": built}, map[string]int{"built": 1200})
}

// Where all calls are evaluated, what has a level comes to an end, and nothing
// else does. The level is how often calls are made within that of the function:
// within as many others as still leave room for these, it comes to an end, too.
func TestLevelsOfEvaluations(t *testing.T) {
	names, ends := []int{0, 3, 7}, map[string]int{}
	for bits := range 1 << 9 {
		lib := libraryOfBits(names, bits)
		for _, f := range names {
			level, ok := impl.LevelOfFun(lib, f)
			if x := impl.EvalClient(lib, call(f), impl.MaxFuel); ok != (x.Code == impl.EvalDone) {
				t.Errorf("LevelOfFun of %s is %d, %v, and its outcome %v, with %s", textOf(call(f)), level, ok, x, textOfLibrary(lib))
			}
			if !ok {
				ends["circle"]++
				continue
			}
			ends["level "+numberText(level)]++
			around := def(1, 1, choice(variable(0), call(1, add(variable(0), num(99))), call(f)))
			all := []impl.Def{lib[0], around, lib[1], lib[2]}
			most := impl.MaxNest - level - 2
			for n, code := range map[int]int{0: impl.EvalDone, most - 1: impl.EvalDone, most: impl.EvalDone, most + 1: impl.EvalNest} {
				if x := impl.EvalClient(all, call(1, num(n)), impl.MaxFuel); x.Code != code {
					t.Errorf("within %d calls, at the level %d, %s ends with %d, with %s", n+1, level, textOf(call(f)), x.Code, textOfLibrary(lib))
				}
			}
		}
	}
	wantCounts(t, ends, map[string]int{"circle": 600, "level 0": 150, "level 1": 50, "level 2": 5})
}
