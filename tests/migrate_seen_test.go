package tests

import (
	"math/rand"
	"slices"
	"testing"

	"loop.example/apimigrator/impl"
)

// checkMigratedSeen compares the outcome of a client that comes to an end with
// that of what it is migrated to. It reports whether it comes to an end.
func checkMigratedSeen(t *testing.T, a, b []impl.Def, e, migrated impl.Expr) bool {
	t.Helper()
	before := impl.EvalClient(a, e, impl.MaxFuel)
	if before.Code != impl.EvalDone {
		return false
	}
	// It needs no more fuel than before.
	after := impl.EvalClient(b, migrated, len(before.Calls))
	wantSeen(t, textOf(migrated)+" with "+textOfLibrary(b)+"from "+textOf(e)+" with "+textOfLibrary(a), after, before)
	return true
}

// checkMigratedFits reports a result that is no client of b, or has calls that are listed.
func checkMigratedFits(t *testing.T, a, b []impl.Def, migrated impl.Expr, list leaving) {
	t.Helper()
	if !impl.ClientValid(b, migrated) || !isClientOf(b, migrated) || len(list(a, b, migrated)) > 0 {
		t.Errorf("from\n%sto\n%sthere is the client %s", textOfLibrary(a), textOfLibrary(b), textOf(migrated))
	}
}

// Clients without calls of functions that are changed look the same in both
// versions, whatever else these versions are.
func TestStrictlyMigratedClientsLookTheSame(t *testing.T) {
	r := rand.New(rand.NewSource(44))
	count := map[string]int{}
	for range 12000 {
		a, b, e := migrationCase(r)
		if got, ok := impl.MigrateStrict(a, b, e); ok {
			checkMigratedFits(t, a, b, got, notKeptByRule)
			if checkMigratedSeen(t, a, b, e, got) && !sameTree(got, e) {
				count["strict"]++
			}
		}
		got, ok := impl.MigrateExpr(a, b, e)
		if !ok {
			continue
		}
		checkMigratedFits(t, a, b, got, goneByRule)
		// In the first version, it looks the same in any case.
		checkMigratedSeen(t, a, a, e, got)
		if len(notKeptByRule(a, b, got)) == 0 && checkMigratedSeen(t, a, b, e, got) && !sameTree(got, e) {
			count["expr"]++
			if len(callsIn(got)) > 0 {
				count["with calls"]++
			}
		}
	}
	wantCounts(t, count, map[string]int{"strict": 4000, "expr": 2000, "with calls": 300})
}

// withoutCalls inlines the calls of some functions in an expression that fits a.
func withoutCalls(a []impl.Def, e impl.Expr, gone []int) (impl.Expr, bool) {
	for range 10 {
		ok := true
		i := slices.IndexFunc(gone, func(f int) bool { return callsNow(e, f) })
		if i < 0 {
			return e, true
		}
		if e, ok = funByRule(a, e, 1, gone[i]); !ok {
			return impl.Expr{}, false
		}
	}
	return impl.Expr{}, false
}

// versionLike comes behind a in a chain, without some of the functions that are
// out of use there. All others do what they did, also where these were called.
func versionLike(r *rand.Rand, a []impl.Def) []impl.Def {
	for {
		var gone []int
		for _, d := range a {
			if d.Old && r.Intn(3) > 0 {
				gone = append(gone, d.Name)
			}
		}
		var next []impl.Def
		possible := true
		for _, d := range a {
			if slices.Contains(gone, d.Name) {
				continue
			}
			body, ok := withoutCalls(a, d.Body, gone)
			possible = possible && ok
			if ok && r.Intn(3) == 0 {
				body = tidiedByRule(a, body)
			}
			next = append(next, impl.Def{Name: d.Name, Arity: d.Arity, Old: d.Old != (r.Intn(3) == 0), Body: body})
		}
		if possible && impl.LibraryValid(next) {
			return clonedLibrary(next)
		}
	}
}

// From version to version, the functions that stay do the same, though not with
// the same Bodies: then clients look the same behind each step.
func TestMigratedClientsLookTheSame(t *testing.T) {
	r := rand.New(rand.NewSource(45))
	count := map[string]int{}
	for range 4000 {
		first, _, e := migrationCase(r)
		steps := [][]impl.Def{first}
		for len(steps) < 2+r.Intn(impl.MaxVersions-1) {
			steps = append(steps, versionLike(r, steps[len(steps)-1]))
		}
		last := len(steps) - 1
		got, ok := impl.MigrateChain(steps, 0, last, e)
		if !ok {
			count["not migrated"]++
			continue
		}
		checkMigratedFits(t, steps[last-1], steps[last], got, goneByRule)
		if checkMigratedSeen(t, first, steps[last], e, got) && !sameTree(got, e) {
			count["by a chain"]++
			if len(callsIn(got)) > 0 {
				count["with calls"]++
			}
		}
		checkSeenWithEdits(t, steps[0], steps[1], e, count)
	}
	wantCounts(t, count, map[string]int{"by a chain": 1500, "with calls": 800, "by edits": 1000, "not migrated": 20})
}

// checkSeenWithEdits makes the edits of the text of a client, and looks at the client that is written there then.
func checkSeenWithEdits(t *testing.T, a, b []impl.Def, e impl.Expr, count map[string]int) {
	t.Helper()
	edits, ok := impl.MigrateEdits(a, b, e)
	if !ok {
		return
	}
	text, ok := impl.ApplyEdits(impl.FormatExpr(e), edits)
	if !ok {
		t.Errorf("the edits %v of %s are none", edits, textOf(e))
	}
	got := exprOf(t, text)
	checkMigratedFits(t, a, b, got, goneByRule)
	if checkMigratedSeen(t, a, b, e, got) && len(edits) > 0 {
		count["by edits"]++
	}
}

// What CanMigrate lists can be migrated with any arguments of this kind, also beside others.
func TestFunctionsThatCanMigrateLookTheSame(t *testing.T) {
	r := rand.New(rand.NewSource(46))
	seen := 0
	for range 3000 {
		a, _, _ := migrationCase(r)
		b := versionLike(r, a)
		can := impl.CanMigrate(a, b)
		for _, d := range a {
			e := call(d.Name, []impl.Expr{out(num(70)), out(num(80)), out(num(90))}[:d.Arity]...)
			got, ok := impl.MigrateExpr(a, b, e)
			if ok != slices.Contains(can, d.Name) {
				t.Errorf("CanMigrate = %v, but MigrateExpr of %s is %v", can, textOf(e), ok)
			}
			if ok && checkMigratedSeen(t, a, b, e, got) && !sameTree(got, e) {
				seen++
			}
		}
	}
	if seen < 2000 {
		t.Errorf("only %d of them come to an end", seen)
	}
}

func TestMigratedClientsOfWhatCanBeSeen(t *testing.T) {
	a := libraryOf(t, "A2=(a+b)\nB2~{!b;!a}\nC1~(a+a)\nD2~[a?b:0]\nE1~{b=!a;{c=(b+1);(a+(b+c))}}\nF1~C(!B(a,5))\nG1=!(a+1)\n")
	b := libraryOf(t, "A2=(b+a)\nG1=!{b=1;(b+a)}\n")
	for _, c := range []struct {
		text string
		want impl.Outcome
	}{
		// The arguments are evaluated once, in order, before the Body, and also if it does not need them.
		{"B(!1,!2)", done(1, []int{1, 2, 2, 1})}, {"C(!3)", done(6, []int{3})}, {"C(C(!3))", done(12, []int{3})}, {"D(!0,!5)", done(0, []int{0, 5})}, {"D(!1,!5)", done(5, []int{1, 5})},
		{"(!1+C({!2;!3}))", done(7, []int{1, 2, 3})}, {"(C(!1)+!2)", done(4, []int{1, 2})}, {"{!1;{C(!2);!3}}", done(3, []int{1, 2, 3})}, {"(G(1)+C(G(2)))", done(8, []int{2, 3})},
		{"F(!6)", done(12, []int{6, 5, 6, 6})}, {"A(E(!1),C(!2))", done(8, []int{1, 1, 2})}, {"E(E(!1))", done(13, []int{1, 1, 4})},
		// Only one branch is evaluated.
		{"[C(!0)?B(!1,2):B(!3,4)]", done(3, []int{0, 3, 4, 3})}, {"[C(!1)?B(!1,2):B(!3,4)]", done(1, []int{1, 1, 2, 1})}, {"[D(!0,1)?G(1):C(!2)]", done(4, []int{0, 2})},
		// The variables of the client are not those of the Body.
		{"{b=!10;{c=!20;E((b+c))}}", done(91, []int{10, 20, 30})}, {"{a=!1;{b=!2;(B(b,a)+(a+b))}}", done(5, []int{1, 2, 1, 2})}, {"{b=!7;C((b+{b=!1;b}))}", done(16, []int{7, 1})},
		{"{c=!4;(E(c)+c)}", done(17, []int{4, 4})}, {"{d=!1;{e=!2;{f=!3;B((d+e),(e+f))}}}", done(3, []int{1, 2, 3, 5, 3})},
	} {
		e := exprOf(t, c.text)
		wantSeen(t, c.text, impl.EvalClient(a, e, 50), c.want)
		got, ok := impl.MigrateExpr(a, b, e)
		if !ok {
			t.Errorf("there is no MigrateExpr of %s", c.text)
		}
		wantSeen(t, textOf(got)+", from "+c.text, impl.EvalClient(b, got, 50), c.want)
		got, ok = impl.MigrateStrict(a, b, e)
		if !ok || len(callsIn(got)) > 0 {
			t.Errorf("MigrateStrict of %s = %s, %v", c.text, textOf(got), ok)
		}
		wantSeen(t, textOf(got)+", from "+c.text, impl.EvalClient(nil, got, 0), c.want)
		checkMigrated(t, a, b, e, map[string]int{})
	}
}
