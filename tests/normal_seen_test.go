package tests

import (
	"math/rand"
	"slices"
	"testing"

	"loop.example/apimigrator/impl"
)

// checkSameOutcomes compares the outcomes of an expression and of another form of
// it, with their ends and calls, for several amounts of fuel, and counts the ends.
func checkSameOutcomes(t *testing.T, lib []impl.Def, e, form impl.Expr, vars []int, ends map[int]int) {
	t.Helper()
	if sameTree(e, form) {
		return
	}
	for _, fuel := range []int{0, 1, 2, 3, 5, 9, 30, impl.MaxFuel} {
		want := impl.EvalOpen(lib, e, vars, fuel)
		got := impl.EvalOpen(lib, form, vars, fuel)
		if !sameOutcome(got, want) || !impl.OutcomeSame(got, want) || want.Code == impl.EvalInvalid {
			t.Errorf("with %v and %d, %s evaluates to %v, but %s to %v, with\n%s", vars, fuel, textOf(form), got, textOf(e), want, textOfLibrary(lib))
		}
		ends[want.Code]++
	}
}

// checkForms compares e with its normal form and its steps, and with the steps
// of its normal form.
func checkForms(t *testing.T, lib []impl.Def, e impl.Expr, vars []int, ends map[int]int) {
	t.Helper()
	if form, ok := impl.NormalNames(e); ok {
		checkSameOutcomes(t, lib, e, form, vars, ends)
		if form, ok = impl.ToSteps(form); ok {
			checkSameOutcomes(t, lib, e, form, vars, ends)
		}
	}
	if form, ok := impl.ToSteps(e); ok {
		checkSameOutcomes(t, lib, e, form, vars, ends)
		if form, ok = impl.NormalNames(form); ok {
			checkSameOutcomes(t, lib, e, form, vars, ends)
		}
	}
}

func wantEnds(t *testing.T, ends map[int]int, done, fuel, nest int) {
	t.Helper()
	if ends[impl.EvalDone] < done || ends[impl.EvalFuel] < fuel || ends[impl.EvalNest] < nest {
		t.Errorf("%v outcomes by their ends", ends)
	}
}

func TestNormalFormsHaveTheOutcomesOfExprs(t *testing.T) {
	r := rand.New(rand.NewSource(56))
	ends := map[int]int{}
	for i := range 3000 {
		lib, e := bindingCase(r)
		switch i % 3 {
		case 0:
			lib, e = calmCase(r)
		case 1:
			lib, e = callingCase(r)
		}
		checkForms(t, lib, e, randomValues(r), ends)
	}
	wantEnds(t, ends, 20000, 2000, 50)
}

func TestNormalFormsOfSmallExprsHaveTheirOutcomes(t *testing.T) {
	ends := map[int]int{}
	vars := []int{11, 0, 33}
	lib := libraryOf(t, "A0=!7\nB1=!(a+1)\n")
	for i, e := range tangled(3) {
		if i%5 == 0 {
			checkForms(t, lib, e, vars, ends)
		}
	}
	for i, e := range letExprs(3) {
		if i%5 == 0 {
			checkForms(t, lib, e, vars, ends)
		}
	}
	wantEnds(t, ends, 10000, 5000, 0)
}

// The Bodies of a library may be brought into such a form as well.
func TestLibrariesOfNormalFormsHaveTheOutcomes(t *testing.T) {
	r := rand.New(rand.NewSource(57))
	ends, changed := map[int]int{}, 0
	for i := range 2000 {
		lib, e := callingCase(r)
		other := clonedLibrary(lib)
		for k, d := range other {
			form, ok := impl.NormalNames(d.Body)
			if i%2 == 0 {
				form, ok = impl.ToSteps(d.Body)
			}
			if ok {
				other[k].Body = form
			}
		}
		if !impl.LibraryValid(other) {
			t.Fatalf("the forms of the valid library\n%sare\n%s", textOfLibrary(lib), textOfLibrary(other))
		}
		if !sameDefs(lib, other) {
			changed++
		}
		vars := randomValues(r)
		for _, fuel := range []int{0, 3, 10, impl.MaxFuel} {
			x := impl.EvalOpen(lib, e, vars, fuel)
			wantOutcome(t, textOf(e)+" with "+textOfLibrary(other)+"from "+textOfLibrary(lib), impl.EvalOpen(other, e, vars, fuel), x)
			ends[x.Code]++
		}
	}
	wantEnds(t, ends, 3000, 500, 10)
	if changed < 1000 {
		t.Errorf("only %d libraries were changed", changed)
	}
}

// checkSwappedSeen compares the outcomes before and after bindings are exchanged,
// if the first one comes to an end: the calls are the same, but not their order.
func checkSwappedSeen(t *testing.T, lib []impl.Def, e, swapped impl.Expr, vars []int) bool {
	t.Helper()
	x := impl.EvalOpen(lib, e, vars, impl.MaxFuel)
	if x.Code != impl.EvalDone {
		return false
	}
	y := impl.EvalOpen(lib, swapped, vars, len(x.Calls))
	wantSeen(t, textOf(swapped)+", from "+textOf(e)+" with "+textOfLibrary(lib)+",", y, x)
	slices.Sort(x.Calls)
	slices.Sort(y.Calls)
	if !slices.Equal(x.Calls, y.Calls) {
		t.Errorf("with %v and %s, %s calls %v, but %s %v", vars, textOfLibrary(lib), textOf(swapped), y.Calls, textOf(e), x.Calls)
	}
	return true
}

func TestSwappedLetsLookTheSame(t *testing.T) {
	r := rand.New(rand.NewSource(58))
	done, put := 0, 0
	for range 12000 {
		lib, e := swapCase(r)
		got, ok := impl.SwapLets(lib, e)
		if !ok {
			continue
		}
		vars := randomValues(r)
		if checkSwappedSeen(t, lib, e, got, vars) {
			done++
			put += len(impl.EvalOpen(lib, e, vars, impl.MaxFuel).Out)
		}
	}
	if done < 3000 || put < 2000 {
		t.Errorf("only %d come to an end, which put out %d", done, put)
	}
}

// What commutes may be evaluated in either order, in two bindings of which the
// names are nowhere else.
func TestWhatCommutesLooksTheSame(t *testing.T) {
	r := rand.New(rand.NewSource(59))
	done, other := 0, 0
	for range 6000 {
		lib, e := swapCase(r)
		x, y := e.Kids[0], e.Kids[1].Kids[0]
		vars := randomValues(r)[:6]
		if !impl.ExprValid(add(x, y), allVars[:6]) {
			continue
		}
		sum := add(variable(6), variable(7))
		before, after := let(6, x, let(7, y, sum)), let(7, y, let(6, x, sum))
		a, b := impl.EvalOpen(lib, before, vars, impl.MaxFuel), impl.EvalOpen(lib, after, vars, impl.MaxFuel)
		if a.Code != impl.EvalDone || b.Code != impl.EvalDone {
			continue
		}
		if impl.CommutesWith(lib, x, y) {
			wantSeen(t, textOf(after)+", from "+textOf(before)+" with "+textOfLibrary(lib), b, a)
			done++
		} else if !impl.OutcomeSeen(a, b) {
			other++
		}
	}
	if done < 1500 || other < 100 {
		t.Errorf("%d come to an end, and %d are different without commuting", done, other)
	}
}

func TestNormalFormsOfWhatCanBeSeen(t *testing.T) {
	lib := libraryOf(t, purityLibrary)
	for _, c := range []struct {
		text, normal, steps string
		want                impl.Outcome // with 10 for a, 20 for b and 30 for c
	}{
		{"(!1+{!2;3})", "(!1+{!2;3})", "{a=!1;{b={!2;3};(a+b)}}", done(4, []int{1, 2})}, {"(C(!1)+!b)", "(C(!1)+!b)", "{c={a=!1;C(a)};{d=!b;(c+d)}}", done(22, []int{1, 1, 20}, 2, 1, 0)},
		{"{b=!a;{a=!b;(!a+!b)}}", "{b=!a;{c=!b;(!c+!b)}}", "{b=!a;{a=!b;{c=!a;{d=!b;(c+d)}}}}", done(20, []int{10, 10, 10, 10})}, {"({a=!1;(a+!a)}+!a)", "({b=!1;(b+!b)}+!a)", "{c={a=!1;{b=!a;(a+b)}};{d=!a;(c+d)}}", done(12, []int{1, 1, 10})},
		{"{a=!1;{a=(a+!2);!a}}", "{a=!1;{b=(a+!2);!b}}", "{a=!1;{a={b=!2;(a+b)};!a}}", done(3, []int{1, 2, 3})}, {"[!(a<b)?!c:!!a]", "[!(a<b)?!c:!!a]", "{e={d=(a<b);!d};[e?!c:{f=!a;!f}]}", done(30, []int{1, 30})},
		{"[!(b<a)?!c:!!a]", "[!(b<a)?!c:!!a]", "{e={d=(b<a);!d};[e?!c:{f=!a;!f}]}", done(10, []int{0, 10, 10})}, {"A({c=!5;c},{h=E();(h+h)})", "A({a=!5;a},{a=E();(a+a)})", "{a={c=!5;c};{b={h=E();(h+h)};A(a,b)}}", done(19, []int{5, 7}, 4, 0)},
	} {
		e := exprOf(t, c.text)
		normal, ok := impl.NormalNames(e)
		wantExpr(t, "NormalNames of "+c.text, normal, ok, c.normal)
		steps, ok := impl.ToSteps(e)
		wantExpr(t, "ToSteps of "+c.text, steps, ok, c.steps)
		for _, x := range []impl.Expr{e, normal, steps} {
			wantOutcome(t, textOf(x), impl.EvalOpen(lib, x, []int{10, 20, 30}, 50), c.want)
		}
	}
	for _, c := range []struct {
		text, swapped string
		want          impl.Outcome
	}{
		{"{d=!1;{e=B(2);(!d+!e)}}", "{e=B(2);{d=!1;(!d+!e)}}", done(4, []int{1, 1, 3})}, {"{d=A(a,b);{e=C(!3);[(e<d)?!e:!d]}}", "{e=C(!3);{d=A(a,b);[(e<d)?!e:!d]}}", done(4, []int{3, 3, 4})}, {"{a=!a;{b=G();(a+b)}}", "{b=G();{a=!a;(a+b)}}", done(52, []int{10})},
		{"{a={b=!4;b};{b={a=c;(a+1)};(a+b)}}", "{b={a=c;(a+1)};{a={b=!4;b};(a+b)}}", done(35, []int{4})},
	} {
		e := exprOf(t, c.text)
		got, ok := impl.SwapLets(lib, e)
		wantExpr(t, "SwapLets of "+c.text, got, ok, c.swapped)
		for _, x := range []impl.Expr{e, got} {
			wantSeen(t, textOf(x), impl.EvalOpen(lib, x, []int{10, 20, 30}, 50), c.want)
		}
	}
}
