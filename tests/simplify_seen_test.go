package tests

import (
	"math/rand"
	"slices"
	"testing"

	"loop.example/apimigrator/impl"
)

// checkChanged compares what one of the ways does with e, which is valid, with
// the rules, and returns the result.
func checkChanged(t *testing.T, w way, name string, e impl.Expr) impl.Expr {
	t.Helper()
	got, ok := w.change(e)
	want := w.rule(e)
	if !ok || !sameTree(got, want) {
		t.Errorf("%s of %s = %v, %v, want %s", name, textOf(e), got, ok, textOf(want))
	}
	return want
}

// tangled are small expressions that put something out, bind names and make calls.
func tangled(levels int) []impl.Expr {
	list := []impl.Expr{num(1), variable(0), variable(1), call(0)}
	if levels == 1 {
		return list
	}
	kids := tangled(levels - 1)
	for _, x := range kids {
		list = append(list, out(x))
		for _, y := range kids {
			list = append(list, add(x, y), seq(x, y), let(0, x, y), let(1, x, y))
		}
		list = append(list, choice(x, kids[0], kids[1]), choice(kids[1], kids[0], x), choice(kids[0], x, kids[3]))
	}
	return list
}

func TestChangedSmallExprs(t *testing.T) {
	libs := []string{"A0=7\n", "A0=!7\n", "A0=A()\n"}
	exprs := tangled(3)
	for i, text := range libs {
		for name, w := range ways(libraryOf(t, text)) {
			// All of them with each library would take too long.
			for k := i; k < len(exprs); k += len(libs) {
				checkChanged(t, w, name, exprs[k])
			}
		}
	}
	for name, w := range ways(nil) {
		for _, e := range letExprs(3) {
			checkChanged(t, w, name, e)
		}
	}
}

// bindingCase is a valid library, and an expression that fits it and has many bindings.
func bindingCase(r *rand.Rand) ([]impl.Def, impl.Expr) {
	for {
		lib, arities := calmLibrary(r, 3)
		scope := allVars[:1+r.Intn(impl.MaxVars)]
		e := randomExpr(r, 1+r.Intn(3), scope, arities)
		for range r.Intn(7) {
			v := scope[r.Intn(len(scope))]
			x := randomExpr(r, 1+r.Intn(3), scope, arities)
			switch r.Intn(8) {
			case 0:
				e = add(e, x)
			case 1:
				e = seq(x, e)
			case 2:
				e = let(v, e, x)
			default:
				e = let(v, x, e)
			}
		}
		if impl.LibraryValid(lib) && impl.ExprValid(e, allVars) {
			return lib, e
		}
	}
}

func TestChangedRandomExprs(t *testing.T) {
	r := rand.New(rand.NewSource(11))
	changed := map[string]int{}
	for i := range 10000 {
		lib, e := bindingCase(r)
		if i%2 == 0 {
			lib, e = calmCase(r)
		}
		for name, w := range ways(lib) {
			if got := checkChanged(t, w, name, e); !sameTree(got, e) {
				changed[name]++
			}
		}
	}
	for name := range ways(nil) {
		if changed[name] < 2000 {
			t.Errorf("%s changed only %d", name, changed[name])
		}
	}
}

// checkSeen compares the outcomes of an expression with those of what it was
// changed to, if it comes to an end: the same is put out, and nothing is
// evaluated twice. It reports whether it comes to an end.
func checkSeen(t *testing.T, lib []impl.Def, e, changed impl.Expr, vars []int) bool {
	t.Helper()
	before := impl.EvalOpen(lib, e, vars, impl.MaxFuel)
	if before.Code != impl.EvalDone {
		return false
	}
	after := impl.EvalOpen(lib, changed, vars, impl.MaxFuel)
	wantSeen(t, textOf(changed)+", from "+textOf(e)+" with "+textOfLibrary(lib)+",", after, before)
	for f := range impl.MaxFuns {
		if countOf(after.Calls, f) > countOf(before.Calls, f) {
			t.Errorf("with %v and %s, %s calls more than %s", vars, textOfLibrary(lib), textOf(changed), textOf(e))
		}
	}
	// The calls that are not pure are all made, and in the same order.
	quiet, ending := quietByRule(lib), endingByRule(lib)
	isPure := func(f int) bool { return quiet[f] && ending[f] }
	x, y := slices.DeleteFunc(before.Calls, isPure), slices.DeleteFunc(after.Calls, isPure)
	if !slices.Equal(x, y) {
		t.Errorf("with %v and %s, %s calls %v, but %s %v", vars, textOfLibrary(lib), textOf(e), x, textOf(changed), y)
	}
	return true
}

func countOf(list []int, n int) int {
	count := 0
	for _, x := range list {
		if x == n {
			count++
		}
	}
	return count
}

// checkSmaller reports what a changed expression must not have more of, and calls that do not fit.
func checkSmaller(t *testing.T, lib []impl.Def, e, changed impl.Expr) {
	t.Helper()
	if !impl.CallsFit(lib, changed) {
		t.Errorf("%s does not fit, unlike %s", textOf(changed), textOf(e))
	}
	if !sameTree(e, changed) && nodesIn(changed) >= nodesIn(e) {
		t.Errorf("%s is not smaller than %s", textOf(changed), textOf(e))
	}
	for v := range freeIn(changed) {
		if !freeIn(e)[v] {
			t.Errorf("in %s, %d is free, but not in %s", textOf(changed), v, textOf(e))
		}
	}
}

func TestChangedExprsLookTheSame(t *testing.T) {
	r := rand.New(rand.NewSource(12))
	changed, done := map[string]int{}, map[string]int{}
	for range 10000 {
		lib, e := bindingCase(r)
		vars := randomValues(r)
		for name, w := range ways(lib) {
			got, ok := w.change(e)
			if !ok {
				t.Fatalf("there is no %s of %s", name, textOf(e))
			}
			checkSmaller(t, lib, e, got)
			if sameTree(got, e) {
				continue
			}
			changed[name]++
			if checkSeen(t, lib, e, got, vars) {
				done[name]++
			}
		}
	}
	for name := range ways(nil) {
		if changed[name] < 2000 || done[name] < 1500 {
			t.Errorf("only %d were changed by %s, of which %d are done", changed[name], name, done[name])
		}
	}
}

func TestTidyExprsOfWhatCanBeSeen(t *testing.T) {
	lib := libraryOf(t, purityLibrary)
	for _, c := range []struct {
		text, tidy string
		want       impl.Outcome // with 10 for a, 20 for b and 30 for c
	}{
		{"{c=!1;2}", "{c=!1;2}", done(2, []int{1})},
		{"{c=C(5);{c=!6;{E();7}}}", "{c=C(5);{c=!6;{E();7}}}", done(7, []int{5, 6, 7}, 2, 1, 0, 4)},
		{"{c=A(1,2);{G();!3}}", "!3", done(3, []int{3})},
		{"{c=!1;(!2+c)}", "{c=!1;(!2+c)}", done(3, []int{1, 2})},
		{"{c=!1;{d=!2;((d+d)+c)}}", "{c=!1;{d=!2;((d+d)+c)}}", done(5, []int{1, 2})},
		{"{c=!1;(B(2)+!c)}", "(B(2)+!!1)", done(4, []int{1, 1}, 1, 0)},
		{"{c=!1;(E()+c)}", "{c=!1;(E()+c)}", done(8, []int{1, 7}, 4)},
		{"{c=!1;[(c<a)?!2:!3]}", "[(!1<a)?!2:!3]", done(2, []int{1, 2})},
		{"{c=!1;[(a<b)?!c:!3]}", "{c=!1;[(a<b)?!c:!3]}", done(1, []int{1, 1})},
		{"{c=a;{a=!5;{!c;!a}}}", "{b=!5;{!a;!b}}", done(5, []int{5, 10, 5})},
		{"{c=!a;{a=B(b);(c+(a+a))}}", "{b=B(b);(!a+(b+b))}", done(52, []int{10}, 1, 0)},
		{"{a=b;{b=c;{c=a;{!a;{!b;!c}}}}}", "{!b;{!c;!b}}", done(20, []int{20, 30, 20})},
	} {
		e := exprOf(t, c.text)
		tidy, ok := impl.TidyExpr(lib, e)
		wantExpr(t, "TidyExpr of "+c.text, tidy, ok, c.tidy)
		wantSeen(t, c.text, impl.EvalOpen(lib, e, []int{10, 20, 30}, 50), c.want)
		wantSeen(t, c.tidy, impl.EvalOpen(lib, tidy, []int{10, 20, 30}, 50), c.want)
	}
}

func wantSeen(t *testing.T, what string, got, want impl.Outcome) {
	t.Helper()
	if got.Code != want.Code || got.Value != want.Value || !slices.Equal(got.Out, want.Out) {
		t.Errorf("%s evaluates to %v, want %v", what, got, want)
	}
}

// What is tidy is not changed by any of the functions.
func TestTidyExprsStayAsTheyAre(t *testing.T) {
	r := rand.New(rand.NewSource(13))
	for range 2000 {
		lib, e := bindingCase(r)
		tidy, ok := impl.TidyExpr(lib, e)
		if !ok {
			t.Fatalf("there is no TidyExpr of %s", textOf(e))
		}
		for name, w := range ways(lib) {
			got, ok := w.change(tidy)
			wantExpr(t, name+" of the tidy "+textOf(tidy), got, ok, textOf(tidy))
		}
	}
}

// Clients look the same with a tidied library.
func TestTidyLibrariesLookTheSame(t *testing.T) {
	r := rand.New(rand.NewSource(14))
	changed, done := 0, 0
	for range 1500 {
		lib, e := calmCase(r)
		got, ok := impl.TidyLibrary(lib)
		var want []impl.Def
		for _, d := range lib {
			d.Body = tidiedByRule(lib, d.Body)
			want = append(want, d)
		}
		if !ok || !sameDefs(got, want) || !impl.LibraryValid(got) {
			t.Errorf("TidyLibrary of %q = %q, %v, want %q", textOfLibrary(lib), textOfLibrary(got), ok, textOfLibrary(want))
		}
		if !sameDefs(got, lib) {
			changed++
		}
		vars := randomValues(r)
		x := impl.EvalOpen(lib, e, vars, impl.MaxFuel)
		if x.Code != impl.EvalDone {
			continue
		}
		y := impl.EvalOpen(got, e, vars, impl.MaxFuel)
		wantSeen(t, textOf(e)+" with "+textOfLibrary(got)+", from "+textOfLibrary(lib)+",", y, x)
		if len(x.Calls) > 0 {
			done++
		}
	}
	if changed < 800 || done < 400 {
		t.Errorf("only %d libraries were changed, and %d clients with calls are done", changed, done)
	}
}
