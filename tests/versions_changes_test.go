package tests

import (
	"math/rand"
	"slices"
	"testing"

	"loop.example/apimigrator/impl"
)

// The example of the document, and each kind of changes alone and with others.
func TestChanges(t *testing.T) {
	for _, c := range []struct {
		a, b  string
		want  []string
		level int
	}{
		{"A1=a\nB1~A(a)\n", "A1=(a+0)\n", []string{"body A", "gone B"}, 3},
		{"", "", nil, 0},
		{"A1=a\n", "A1=a\n", nil, 0},
		{"A1~a\nH0=A(1)\n", "A1~a\nH0=A(1)\n", nil, 0},
		// One kind alone.
		{"", "A1=a\n", []string{"new A"}, 2},
		{"", "H0~1\n", []string{"new H"}, 2},
		{"A1=a\n", "", []string{"gone A"}, 3},
		{"A1~a\n", "", []string{"gone A"}, 3},
		{"A1=a\n", "A1~a\n", []string{"old A"}, 2},
		{"A1~a\n", "A1=a\n", []string{"used A"}, 2},
		{"A1=1\n", "A2=1\n", []string{"arity A"}, 3},
		{"A1=1\n", "A0=1\n", []string{"arity A"}, 3},
		{"A1=a\n", "A1=(a+0)\n", []string{"body A"}, 1},
		// A function with another arity and another body has one of them only.
		{"A1=a\n", "A2=(a+b)\n", []string{"arity A"}, 3},
		{"A3=c\n", "A0=7\n", []string{"arity A"}, 3},
		// A function that is out of use in one of them, and changed as well.
		{"A1=a\n", "A1~!a\n", []string{"old A", "body A"}, 2},
		{"A1~a\n", "A1=!a\n", []string{"used A", "body A"}, 2},
		{"A1=1\n", "A2~1\n", []string{"old A", "arity A"}, 3},
		{"A1~1\n", "A2=1\n", []string{"used A", "arity A"}, 3},
		{"A1~a\n", "A2=b\n", []string{"used A", "arity A"}, 3},
		{"A1~a\n", "A1~!a\n", []string{"body A"}, 1},
		{"A1~a\n", "A0~1\n", []string{"arity A"}, 3},
		// Another Body is one that differs anywhere, also if it does the same.
		{"A1={b=a;b}\n", "A1={c=a;c}\n", []string{"body A"}, 1},
		{"A2=(a+b)\n", "A2=(b+a)\n", []string{"body A"}, 1},
		{"A0=!!!!1\n", "A0=!!!!2\n", []string{"body A"}, 1},
		{"A0=(1+2)\n", "A0=3\n", []string{"body A"}, 1},
		{"A0=(1+2)\n", "A0=(1<2)\n", []string{"body A"}, 1},
		{"A0={1;2}\n", "A0={a=1;2}\n", []string{"body A"}, 1},
		// What a function calls is changed, and not the function.
		{"A1=a\nB1=A(a)\n", "A1=!a\nB1=A(a)\n", []string{"body A"}, 1},
		{"A1=a\nB1=A(a)\n", "A2=a\nB1=A(a,a)\n", []string{"arity A", "body B"}, 3},
		// A function is gone, and another one does not call it any more.
		{"A1=a\nB1=A(a)\n", "B1=a\n", []string{"gone A", "body B"}, 3},
		// More of them, in the order of the names, and not of the kinds.
		{"A1=a\nB1~A(a)\nC0=7\n", "A1=(a+0)\nC0~7\nD2=A(b)\n", []string{"body A", "gone B", "old C", "new D"}, 3},
		{"B0=1\nC0~2\nD1=3\n", "A0=4\nC0=2\nD1~4\nE0=9\n", []string{"new A", "gone B", "used C", "old D", "body D", "new E"}, 3},
		{"A0=1\nC0=1\nE0=1\n", "B0=1\nD0=1\nF0=1\n", []string{"gone A", "new B", "gone C", "new D", "gone E", "new F"}, 3},
		{"G0=1\nH0=1\n", "A0=1\nB0=1\n", []string{"new A", "new B", "gone G", "gone H"}, 3},
		{"A0=1\nB0=1\n", "A0=2\nB0=1\nC0=3\n", []string{"body A", "new C"}, 2},
		{"A0=1\nB0~1\nC0=1\n", "A0=2\nB0=1\nC0=2\n", []string{"body A", "used B", "body C"}, 2},
		{"A0~1\nB0=1\nC0=1\nD0~1\n", "A2=1\nB0~1\nC0=2\n", []string{"used A", "arity A", "old B", "body C", "gone D"}, 3},
	} {
		a, b := libraryOf(t, c.a), libraryOf(t, c.b)
		if got := changeTexts(impl.ChangesOf(a, b)); !slices.Equal(got, c.want) {
			t.Errorf("ChangesOf from %q to %q = %v, want %v", c.a, c.b, got, c.want)
		}
		if got := impl.LevelOf(a, b); got != c.level {
			t.Errorf("LevelOf from %q to %q = %d, want %d", c.a, c.b, got, c.level)
		}
		wantVersions(t, a, b)
	}
}

// Without A, while B still calls it, there is no version, and so there are no changes.
func TestChangesToWhatStillCallsAFunThatIsGone(t *testing.T) {
	a := libraryOf(t, "A1=a\nB1=A(a)\nC0=7\n")
	b := clonedLibrary(a)[1:]
	if x, y := impl.ChangesOf(a, b), impl.ChangesOf(b, a); len(x) != 0 || len(y) != 0 {
		t.Errorf("ChangesOf = %v, and the other way %v", x, y)
	}
	if impl.LevelOf(a, b) != impl.LevelSame || len(impl.KeptFuns(a, b)) != 0 || impl.FitsBoth(a, b, call(2)) || impl.ChainValid([][]impl.Def{a, b}) {
		t.Error("LevelOf, KeptFuns, FitsBoth or ChainValid is wrong")
	}
}

func TestChangeNumbers(t *testing.T) {
	for i, n := range []int{impl.ChangeNew, impl.ChangeGone, impl.ChangeOld, impl.ChangeUsed, impl.ChangeArity, impl.ChangeBody} {
		if n != i+1 {
			t.Errorf("the kind %d is %d", i+1, n)
		}
	}
	for i, n := range []int{impl.LevelSame, impl.LevelPatch, impl.LevelMinor, impl.LevelMajor} {
		if n != i {
			t.Errorf("the level %d is %d", i, n)
		}
	}
	if impl.MaxVersions != 6 {
		t.Errorf("there may be %d versions", impl.MaxVersions)
	}
}

func TestFormatChange(t *testing.T) {
	for kind := 1; kind <= 6; kind++ {
		for name := range 8 {
			want := changeWords[kind] + " " + "ABCDEFGH"[name:name+1]
			if got := impl.FormatChange(impl.Change{Kind: kind, Name: name}); got != want {
				t.Errorf("FormatChange of %d, %d = %q, want %q", kind, name, got, want)
			}
		}
		for _, name := range []int{-1, 8, 9, 26, 1 << 62, -1 << 63, 256, -8} {
			if got := impl.FormatChange(impl.Change{Kind: kind, Name: name}); got != "" {
				t.Errorf("FormatChange of %d, %d = %q", kind, name, got)
			}
		}
	}
	for _, kind := range []int{0, -1, 7, 8, 100, 1 << 62, -1 << 63, 257} {
		for _, name := range []int{0, 1, 7, -1, 8} {
			if got := impl.FormatChange(impl.Change{Kind: kind, Name: name}); got != "" {
				t.Errorf("FormatChange of %d, %d = %q", kind, name, got)
			}
		}
	}
}

// smallVersions are the libraries of which A, B and H each are one of a few functions, or not there.
func smallVersions() [][]impl.Def {
	list := [][]impl.Def{nil}
	for _, name := range []int{0, 1, 7} {
		for _, lib := range list {
			for _, d := range []impl.Def{def(name, 0, num(1)), oldDef(name, 0, num(1)), def(name, 0, num(2)), def(name, 1, num(1)), oldDef(name, 1, variable(0)), def(name, 0, call(1))} {
				list = append(list, append(clonedLibrary(lib), d))
			}
		}
	}
	return slices.DeleteFunc(list, func(lib []impl.Def) bool { return !impl.LibraryValid(lib) })
}

func TestSmallVersions(t *testing.T) {
	libs := smallVersions()
	if len(libs) < 150 {
		t.Fatalf("there are only %d versions", len(libs))
	}
	for _, a := range libs {
		for _, b := range libs {
			wantVersions(t, a, b)
		}
		if t.Failed() {
			return
		}
	}
}

func TestRandomVersions(t *testing.T) {
	r := rand.New(rand.NewSource(31))
	count := map[string]int{}
	for range 3000 {
		a, b, _ := versionsCase(r)
		wantVersions(t, a, b)
		wantVersions(t, b, a)
		wantVersions(t, a, a)
		for _, x := range changesByRule(a, b) {
			count[changeWords[x.Kind]]++
		}
		count["level "+string(rune('0'+levelByRule(a, b)))]++
	}
	wantCounts(t, count, map[string]int{
		"new": 300, "gone": 300, "old": 1000, "used": 1000, "arity": 300, "body": 1000, "level 0": 50, "level 1": 50, "level 2": 500, "level 3": 500,
	})
}

func TestChangesOfEightFuns(t *testing.T) {
	var a, b []impl.Def
	for f := range impl.MaxFuns {
		a = append(a, def(f, 1, num(1)))
		b = append(b, oldDef(f, 1, num(2)))
	}
	want := []string{"old A", "body A", "old B", "body B", "old C", "body C", "old D", "body D", "old E", "body E", "old F", "body F", "old G", "body G", "old H", "body H"}
	if got := changeTexts(impl.ChangesOf(a, b)); !slices.Equal(got, want) {
		t.Errorf("ChangesOf of 8 functions = %v", got)
	}
	if got := impl.ChangesOf(nil, a); len(got) != 8 || got[7] != (impl.Change{Kind: impl.ChangeNew, Name: 7}) {
		t.Errorf("ChangesOf to 8 functions = %v", got)
	}
	wantVersions(t, a, nil)
	wantVersions(t, eightFuns(), a)
	wantVersions(t, a, eightFuns())
}
