package tests

import (
	"maps"
	"math/rand"
	"slices"
	"testing"

	"loop.example/apimigrator/impl"
)

// leaving lists the functions of a client that go from a version to another one.
type leaving func(a, b []impl.Def, e impl.Expr) []int

func goneByRule(a, b []impl.Def, e impl.Expr) []int {
	var list []int
	for _, f := range slices.Sorted(maps.Keys(namesIn(e, impl.OpCall))) {
		if _, inB := defOf(b, f); !inB {
			list = append(list, f)
		}
	}
	return list
}

func notKeptByRule(a, b []impl.Def, e impl.Expr) []int {
	var list []int
	for _, f := range slices.Sorted(maps.Keys(namesIn(e, impl.OpCall))) {
		if !slices.Contains(keptByRule(a, b), f) {
			list = append(list, f)
		}
	}
	return list
}

// isClientOf is for a valid library.
func isClientOf(lib []impl.Def, e impl.Expr) bool {
	return len(freeIn(e)) == 0 && nodesIn(e) <= impl.MaxNodes && levelsOf(e) <= impl.MaxDepth && fitsByRule(lib, e)
}

// migratedByRule is the rule of the document for valid versions and a client of the first one.
func migratedByRule(a, b []impl.Def, e impl.Expr, list leaving) (impl.Expr, bool) {
	if len(list(a, b, e)) > 0 {
		e = tidiedByRule(a, e)
		for times := 0; len(list(a, b, e)) > 0; times++ {
			ok := times < 20
			if ok {
				e, ok = funByRule(a, e, 1, list(a, b, e)[0])
			}
			if !ok {
				return impl.Expr{}, false
			}
			e = tidiedByRule(a, e)
		}
	}
	if !isClientOf(b, e) {
		return impl.Expr{}, false
	}
	return e, true
}

// canMigrateByRule is for valid versions.
func canMigrateByRule(a, b []impl.Def) []int {
	var list []int
	for _, d := range a {
		e := call(d.Name, []impl.Expr{out(num(0)), out(num(1)), out(num(2))}[:d.Arity]...)
		if _, ok := migratedByRule(a, b, e, goneByRule); ok {
			list = append(list, d.Name)
		}
	}
	return list
}

// chainMigratedByRule is for valid versions of which from and to are two, and a client of the first of these.
func chainMigratedByRule(chain [][]impl.Def, from, to int, e impl.Expr) (impl.Expr, bool) {
	if !chainByRule(chain) || from > to {
		return impl.Expr{}, false
	}
	if from == to {
		return e, true
	}
	e, ok := migratedByRule(chain[from], chain[from+1], e, goneByRule)
	if !ok {
		return impl.Expr{}, false
	}
	return chainMigratedByRule(chain, from+1, to, e)
}

// wantMigrated migrates the first text of each case by MigrateExpr to the second
// one, and by MigrateStrict to the third one. An = stands for the client as it
// is, and a - for no result.
func wantMigrated(t *testing.T, a, b []impl.Def, cases [][3]string) {
	t.Helper()
	for _, c := range cases {
		x, ok := impl.MigrateExpr(a, b, exprOf(t, c[0]))
		wantText(t, "MigrateExpr of "+c[0], x, ok, c[0], c[1])
		x, ok = impl.MigrateStrict(a, b, exprOf(t, c[0]))
		wantText(t, "MigrateStrict of "+c[0], x, ok, c[0], c[2])
		checkMigrated(t, a, b, exprOf(t, c[0]), map[string]int{})
	}
}

func wantText(t *testing.T, what string, got impl.Expr, ok bool, client, want string) {
	t.Helper()
	switch want {
	case "-":
		wantNoExpr(t, what, got, ok)
	case "=":
		wantExpr(t, what, got, ok, client)
	default:
		wantExpr(t, what, got, ok, want)
	}
}

// checkMigrated compares all functions of the chapter with the rules, for valid
// versions and a client of the first one, and counts the results.
func checkMigrated(t *testing.T, a, b []impl.Def, e impl.Expr, count map[string]int) {
	t.Helper()
	what := " of " + textOf(e) + " from\n" + textOfLibrary(a) + "to\n" + textOfLibrary(b)
	gone, changed := goneByRule(a, b, e), notKeptByRule(a, b, e)
	wantInts(t, "GoneCalls"+what, impl.GoneCalls(a, b, e), gone...)
	wantInts(t, "ChangedCalls"+what, impl.ChangedCalls(a, b, e), changed...)
	counted := func(name string, list []int, got impl.Expr, ok bool) {
		switch {
		case !ok:
			count["no "+name]++
		case len(list) > 0:
			count[name]++
		case len(callsIn(got)) > 0:
			count["as it is by "+name]++
		}
	}
	got, ok := impl.MigrateExpr(a, b, e)
	want, wantOk := migratedByRule(a, b, e, goneByRule)
	wantSameResult(t, "MigrateExpr"+what, got, ok, want, wantOk)
	counted("expr", gone, got, ok)
	checkMigrateEdits(t, a, b, e, want, wantOk)
	got, ok = impl.MigrateStrict(a, b, e)
	want, wantOk = migratedByRule(a, b, e, notKeptByRule)
	wantSameResult(t, "MigrateStrict"+what, got, ok, want, wantOk)
	counted("strict", changed, got, ok)
	chain := [][]impl.Def{a, b}
	if chainByRule(chain) {
		got, ok = impl.MigrateChain(chain, 0, 1, e)
		want, wantOk = migratedByRule(a, b, e, goneByRule)
		wantSameResult(t, "MigrateChain"+what, got, ok, want, wantOk)
		counted("chain", gone, got, ok)
	}
}

// checkMigrateEdits looks at the edits, and at what they lead to.
func checkMigrateEdits(t *testing.T, a, b []impl.Def, e, migrated impl.Expr, wantOk bool) {
	t.Helper()
	edits, ok := impl.MigrateEdits(a, b, e)
	var want []impl.Edit
	if wantOk {
		want = editsByRule(e, migrated)
	}
	if ok != wantOk || !slices.Equal(edits, want) {
		t.Errorf("MigrateEdits of %s = %v, %v, want %v, %v", textOf(e), edits, ok, want, wantOk)
	}
	if ok {
		text, fits := editedByRule(textOf(e), edits)
		if !fits || text != textOf(migrated) {
			t.Errorf("with the edits %v, %s becomes %s, want %s", edits, textOf(e), text, textOf(migrated))
		}
	}
}

// versionWithout is a valid version that comes behind lib, without a few of its
// functions. Some others get other Bodies, and a few of them another Arity.
func versionWithout(r *rand.Rand, lib []impl.Def) []impl.Def {
	for {
		arities := map[int]int{}
		for _, d := range lib {
			if r.Intn(3) > 0 {
				arities[d.Name] = d.Arity
			}
		}
		if r.Intn(8) == 0 {
			arities[r.Intn(impl.MaxFuns)] = r.Intn(impl.MaxArity + 1)
		}
		next := versionWith(r, lib, arities)
		if impl.LibraryValid(next) {
			return next
		}
	}
}

// migrationCase is two valid versions, and a client of the first one that often calls something.
func migrationCase(r *rand.Rand) (a, b []impl.Def, e impl.Expr) {
	for {
		a, e = callingCase(r)
		if isClientOf(a, e) {
			return a, versionWithout(r, a), e
		}
	}
}
