package tests

import (
	"math/rand"
	"slices"
	"strconv"
	"testing"

	"loop.example/apimigrator/impl"
)

// changeWords and changeLevels are the table of the document, by the kinds from 1 on.
var (
	changeWords  = []string{"", "new", "gone", "old", "used", "arity", "body"}
	changeLevels = []int{0, 2, 3, 2, 2, 3, 1}
)

// isChange is the table of the document: whether there is a change of this kind
// for the function, from a valid version to another one.
func isChange(a, b []impl.Def, kind, name int) bool {
	x, inA := defOf(a, name)
	y, inB := defOf(b, name)
	both := inA && inB
	switch kind {
	case 1:
		return inB && !inA
	case 2:
		return inA && !inB
	case 3:
		return both && y.Old && !x.Old
	case 4:
		return both && x.Old && !y.Old
	case 5:
		return both && x.Arity != y.Arity
	}
	return both && x.Arity == y.Arity && !sameTree(x.Body, y.Body)
}

func changesByRule(a, b []impl.Def) []impl.Change {
	var list []impl.Change
	for name := range 8 {
		for kind := 1; kind <= 6; kind++ {
			if isChange(a, b, kind, name) {
				list = append(list, impl.Change{Kind: kind, Name: name})
			}
		}
	}
	return list
}

func levelByRule(a, b []impl.Def) int {
	level := 0
	for _, x := range changesByRule(a, b) {
		level = max(level, changeLevels[x.Kind])
	}
	return level
}

// keptByRule looks at each function, and at all that are called from it in a.
func keptByRule(a, b []impl.Def) []int {
	graph := callGraph(a)
	same := func(name int) bool {
		x, _ := defOf(a, name)
		y, ok := defOf(b, name)
		return ok && x.Arity == y.Arity && sameTree(x.Body, y.Body)
	}
	var kept []int
	for _, d := range a {
		is := same(d.Name)
		for f := range graph[d.Name] {
			is = is && same(f)
		}
		if is {
			kept = append(kept, d.Name)
		}
	}
	return kept
}

// chainByRule is for a list of valid libraries.
func chainByRule(chain [][]impl.Def) bool {
	for i := 1; i < len(chain); i++ {
		for _, x := range changesByRule(chain[i-1], chain[i]) {
			d, _ := defOf(chain[i-1], x.Name)
			if x.Kind == 5 || x.Kind == 2 && !d.Old {
				return false
			}
		}
	}
	return 1 <= len(chain) && len(chain) <= 6
}

func changeTexts(list []impl.Change) []string {
	var texts []string
	for _, x := range list {
		texts = append(texts, changeWords[x.Kind]+" "+string(rune('A'+x.Name)))
	}
	return texts
}

// wantVersions compares the functions that look at two versions with the rules.
func wantVersions(t *testing.T, a, b []impl.Def) {
	t.Helper()
	what := " from\n" + textOfLibrary(a) + "to\n" + textOfLibrary(b)
	if got, want := impl.ChangesOf(a, b), changesByRule(a, b); !slices.Equal(got, want) {
		t.Errorf("ChangesOf%s= %v, want %v", what, got, want)
	}
	if got, want := impl.LevelOf(a, b), levelByRule(a, b); got != want {
		t.Errorf("LevelOf%s= %d, want %d", what, got, want)
	}
	wantInts(t, "KeptFuns"+what, impl.KeptFuns(a, b), keptByRule(a, b)...)
	for _, chain := range [][][]impl.Def{{a, b}, {a, a, b}, {a, b, b}} {
		if got, want := impl.ChainValid(chain), chainByRule(chain); got != want {
			t.Errorf("ChainValid of %d versions%s= %v", len(chain), what, got)
		}
	}
}

// wantLibrary compares the result of a function that makes a version. There is none if want is -.
func wantLibrary(t *testing.T, what string, got []impl.Def, ok bool, want string) {
	t.Helper()
	if want == "-" {
		if ok || len(got) != 0 {
			t.Errorf("%s = %v, %v, want none", what, got, ok)
		}
		return
	}
	if !ok || textOfLibrary(got) != want {
		t.Errorf("%s = %q, %v, want %q", what, textOfLibrary(got), ok, want)
	}
}

// aritiesAfter are those of a version behind lib, of which a few functions are
// gone, new, or have another number of arguments.
func aritiesAfter(r *rand.Rand, lib []impl.Def) map[int]int {
	arities := map[int]int{}
	for _, d := range lib {
		arities[d.Name] = d.Arity
	}
	for f := range impl.MaxFuns {
		switch r.Intn(16) {
		case 0:
			delete(arities, f)
		case 1:
			arities[f] = r.Intn(impl.MaxArity + 1)
		}
	}
	return arities
}

// nextVersion keeps the Bodies of lib that still fit, but for some of them.
func nextVersion(r *rand.Rand, lib []impl.Def) []impl.Def {
	return versionWith(r, lib, aritiesAfter(r, lib))
}

// versionWith is nextVersion for the functions that it is to have.
func versionWith(r *rand.Rand, lib []impl.Def, arities map[int]int) []impl.Def {
	var next []impl.Def
	for f := range impl.MaxFuns {
		arity, ok := arities[f]
		if !ok {
			continue
		}
		d, _ := defOf(lib, f)
		if r.Intn(6) == 0 || !wantedBody(d.Body, arity, arities) || isZero(d.Body) {
			d.Body = randomExpr(r, 3, allVars[:arity], arities)
		}
		d.Name, d.Arity, d.Old = f, arity, d.Old != (r.Intn(5) == 0)
		next = append(next, d)
	}
	return clonedLibrary(next)
}

// versionsCase is a valid version, the next one, and a client of the first one.
func versionsCase(r *rand.Rand) (a, b []impl.Def, e impl.Expr) {
	for {
		a, arities := calmLibrary(r, 3)
		b := nextVersion(r, a)
		e := randomExpr(r, 2+r.Intn(4), nil, arities)
		if impl.LibraryValid(a) && impl.LibraryValid(b) && impl.ClientValid(a, e) {
			return a, b, e
		}
	}
}

// allInvalidLibraries has, in addition, such whose only fault is a function at the end.
func allInvalidLibraries() map[string][]impl.Def {
	m := invalidLibraries()
	for i, d := range []impl.Def{def(8, 0, num(1)), def(7, 4, num(1)), def(7, 1, variable(1)), def(7, 0, call(6)), def(7, 0, call(7, num(1))), def(7, 0, num(100)), {Name: 7}} {
		m["last one "+strconv.Itoa(i)] = []impl.Def{def(0, 1, variable(0)), oldDef(1, 1, call(0, variable(0))), def(2, 0, num(7)), d}
	}
	return m
}
