package tests

import (
	"slices"
	"strconv"
	"testing"

	"loop.example/apimigrator/impl"
)

// wantNotMigrated is for versions that are not valid, or an expression that is not a client of the first one.
func wantNotMigrated(t *testing.T, what string, a, b []impl.Def, e impl.Expr) {
	t.Helper()
	wantInts(t, "GoneCalls with "+what, impl.GoneCalls(a, b, e))
	wantInts(t, "ChangedCalls with "+what, impl.ChangedCalls(a, b, e))
	got, ok := impl.MigrateExpr(a, b, e)
	wantNoExpr(t, "MigrateExpr with "+what, got, ok)
	got, ok = impl.MigrateStrict(a, b, e)
	wantNoExpr(t, "MigrateStrict with "+what, got, ok)
	if edits, ok := impl.MigrateEdits(a, b, e); ok || len(edits) != 0 {
		t.Errorf("MigrateEdits with %s = %v, %v", what, edits, ok)
	}
	got, ok = impl.MigrateChain([][]impl.Def{a, b}, 0, 1, e)
	wantNoExpr(t, "MigrateChain with "+what, got, ok)
	got, ok = impl.MigrateChain([][]impl.Def{a, b}, 0, 0, e)
	wantNoExpr(t, "MigrateChain within one version, with "+what, got, ok)
}

func TestMigrateWithInvalidLibraries(t *testing.T) {
	good := libraryOf(t, "A1=a\nB1~A(a)\nC0~7\n")
	for what, lib := range allInvalidLibraries() {
		for _, p := range [][2][]impl.Def{{lib, good}, {good, lib}, {lib, lib}, {lib, nil}, {nil, lib}} {
			wantInts(t, "CanMigrate with "+what, impl.CanMigrate(p[0], p[1]))
			for _, e := range []impl.Expr{num(1), seq(num(1), num(2)), call(0), call(0, num(1)), call(1, num(1)), call(2), call(7), add(call(2), call(1, num(1)))} {
				wantNotMigrated(t, what, p[0], p[1], e)
			}
		}
		for n := 1; n <= 3; n++ {
			for i := range n {
				steps := slices.Insert(make([][]impl.Def, n-1), i, lib)
				for to := range n {
					got, ok := impl.MigrateChain(steps, 0, to, num(1))
					wantNoExpr(t, "MigrateChain with "+what, got, ok)
				}
			}
		}
	}
}

// Without what is at fault, there would be a result.
func TestMigrateWithLibrariesThatAreAlmostValid(t *testing.T) {
	good := []impl.Def{def(0, 1, variable(0)), oldDef(1, 1, call(0, variable(0)))}
	for _, lib := range [][]impl.Def{
		append(clonedLibrary(good), def(2, 0, num(100))), append(clonedLibrary(good), def(2, 0, call(3))), append(clonedLibrary(good), def(2, 0, call(0))), append(clonedLibrary(good), def(1, 1, variable(0))),
		append(clonedLibrary(good), def(8, 0, num(1))), append(clonedLibrary(good), def(2, 4, num(1))), append(clonedLibrary(good), impl.Def{Name: 2}), {good[1], good[0]}, good[1:],
	} {
		for _, e := range []impl.Expr{num(1), call(0, num(1)), call(1, num(1))} {
			wantNotMigrated(t, "a library with"+textOfDefs(lib), lib, good, e)
			wantNotMigrated(t, "a library with"+textOfDefs(lib), good, lib, e)
			wantNotMigrated(t, "a library with"+textOfDefs(lib), lib, good[:1], e)
		}
		wantInts(t, "CanMigrate from a library with"+textOfDefs(lib), impl.CanMigrate(lib, good))
		wantInts(t, "CanMigrate to a library with"+textOfDefs(lib), impl.CanMigrate(good, lib))
	}
	wantInts(t, "CanMigrate", impl.CanMigrate(good, good[:1]), 0, 1)
}

func TestMigrateInvalidExprs(t *testing.T) {
	a, b := libraryOf(t, "A1=a\nB1~A(a)\nC0~7\n"), libraryOf(t, "A1=a\n")
	exprs := invalidExprs()
	for i, e := range endlessExprs() {
		exprs["endless "+strconv.Itoa(i)] = e
	}
	for what, e := range exprs {
		for _, x := range []impl.Expr{e, out(e), call(0, e), call(1, e), add(call(2), e), let(0, e, call(2)), seq(call(1, num(1)), e), choice(num(0), e, call(2))} {
			wantNotMigrated(t, what, a, b, x)
			wantNotMigrated(t, what, a, a, x)
			wantNotMigrated(t, what, a, nil, x)
		}
		wantNotMigrated(t, what+" without functions", nil, nil, e)
	}
}

func TestMigrateWhatIsNoClient(t *testing.T) {
	a, b := libraryOf(t, "A1=a\nB1~A(a)\nC0~7\n"), libraryOf(t, "A1=a\nD1=A(a)\n")
	for _, text := range []string{
		// Variables are free, also where tidying would remove them.
		"a", "(1+h)", "B(a)", "{B(1);b}", "{a;7}", "{b=a;7}", "[0?a:B(1)]", "{a=a;7}", "{a=1;(a+b)}",
		// Functions are not there, or only in the second version.
		"D(1)", "E()", "(B(1)+D(2))", "[0?D(1):2]", "{D(1);7}", "A(D(1))",
		// Not as many arguments.
		"A()", "A(1,2)", "B()", "C(1)", "(B(1)+C(2))", "[1?7:C(2)]", "B(B())",
	} {
		wantNotMigrated(t, text, a, b, exprOf(t, text))
		wantNotMigrated(t, text, a, a, exprOf(t, text))
	}
	wantNotMigrated(t, "A(1)", nil, a, exprOf(t, "A(1)"))
	wantNotMigrated(t, "81 nodes", a, a, closedWide(81))
	wantNotMigrated(t, "a depth of 15", a, a, chain(15))
	for _, e := range []impl.Expr{closedWide(80), chain(14)} {
		got, ok := impl.MigrateExpr(a, nil, e)
		wantSameResult(t, "MigrateExpr", got, ok, e, true)
		got, ok = impl.MigrateStrict(a, nil, e)
		wantSameResult(t, "MigrateStrict", got, ok, e, true)
	}
}

// migrations are the functions of the chapter that return an expression, for a chain of two versions.
func migrations() map[string]func(steps [][]impl.Def, e impl.Expr) (impl.Expr, bool) {
	return map[string]func(steps [][]impl.Def, e impl.Expr) (impl.Expr, bool){
		"MigrateExpr": func(steps [][]impl.Def, e impl.Expr) (impl.Expr, bool) {
			return impl.MigrateExpr(steps[0], steps[1], e)
		},
		"MigrateStrict": func(steps [][]impl.Def, e impl.Expr) (impl.Expr, bool) {
			return impl.MigrateStrict(steps[0], steps[1], e)
		},
		"MigrateChain": func(steps [][]impl.Def, e impl.Expr) (impl.Expr, bool) { return impl.MigrateChain(steps, 0, 1, e) },
		"no step":      func(steps [][]impl.Def, e impl.Expr) (impl.Expr, bool) { return impl.MigrateChain(steps, 0, 0, e) },
	}
}

func TestMigratedClientsAreNewMemory(t *testing.T) {
	const first, second = "A2=(a+b)\nB1~{b=A(a,!a);(b+A(b,b))}\nC1~B((a+1))\n", "A2={1;(a+b)}\n"
	for _, text := range []string{"7", "(!1+!2)", "A((1+!2),!3)", "{a=!1;{1;(a+a)}}", "B((!1+!2))", "(B(!1)+B(!2))", "C(B((!1+2)))", "{a=C(!1);A((a+a),(a+1))}"} {
		for what, migrate := range migrations() {
			steps := append(chainOf(t, first, second), libraryOf(t, "H0=1\n"))[:2]
			e := exprOf(t, text)
			got, ok := migrate(steps, e)
			want := cloned(got)
			if !ok || textOf(e) != text || textOfLibrary(steps[0]) != first || textOfLibrary(steps[1]) != second || textOfLibrary(steps[:3][2]) != "H0=1\n" {
				t.Fatalf("%s of %s = %v, and changes its arguments to %s and %v", what, text, ok, textOf(e), steps[:3])
			}
			overwrite(e)
			for k, lib := range steps {
				for i := range lib {
					overwrite(lib[i].Body)
					lib[i] = impl.Def{}
				}
				steps[k] = nil
			}
			if !sameTree(got, want) {
				t.Errorf("with changed arguments, %s of %s became %s", what, text, textOf(want))
			}
			checkOwnMemory(t, got)
			growAll(got)
			if !sameTree(got, want) {
				t.Errorf("grown, %s of %s became %s", what, text, textOf(want))
			}
		}
	}
}

// The operands of a client may share memory, but those of the result do not.
func TestMigrateClientsWithSharedParts(t *testing.T) {
	x := call(1, add(num(1), out(num(2))))
	e := add(x, call(0, x, x))
	steps := chainOf(t, "A2=(a+b)\nB1~A(a,a)\n", "A2=(a+b)\n")
	for what, migrate := range migrations() {
		got, ok := migrate(steps, e)
		if !ok || textOf(e) != "(B((1+!2))+A(B((1+!2)),B((1+!2))))" {
			t.Errorf("%s = %v, with %s", what, ok, textOf(e))
		}
		checkOwnMemory(t, got)
	}
}

// What one call returns is nothing that another one returns.
func TestMigrationsStay(t *testing.T) {
	const first, second = "A1=a\nB1~A(a)\nC0~7\n", "A1=!a\n"
	a, b, e := libraryOf(t, first), libraryOf(t, second), exprOf(t, "(A(1)+(B(2)+C()))")
	for range 2 {
		gone, changed, can := impl.GoneCalls(a, b, e), impl.ChangedCalls(a, b, e), impl.CanMigrate(a, b)
		edits, ok := impl.MigrateEdits(a, b, e)
		wantInts(t, "GoneCalls", gone, 1, 2)
		wantInts(t, "ChangedCalls", changed, 0, 1, 2)
		wantInts(t, "CanMigrate", can, 0, 1, 2)
		if want := []impl.Edit{{From: 7, To: 11, Text: "A(2)"}, {From: 12, To: 15, Text: "7"}}; !ok || !slices.Equal(edits, want) {
			t.Errorf("MigrateEdits = %v, %v", edits, ok)
		}
		got, ok := impl.MigrateExpr(a, b, e)
		wantExpr(t, "MigrateExpr", got, ok, "(A(1)+(A(2)+7))")
		for _, list := range [][]int{gone, changed, can} {
			overwriteInts(list)
		}
		edits[0] = impl.Edit{From: 77, To: 77, Text: "77"}
		overwrite(got)
	}
	if textOfLibrary(a) != first || textOfLibrary(b) != second || textOf(e) != "(A(1)+(B(2)+C()))" {
		t.Errorf("the arguments became %s, %s and %s", textOfLibrary(a), textOfLibrary(b), textOf(e))
	}
}
