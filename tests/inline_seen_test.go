package tests

import (
	"math/rand"
	"slices"
	"testing"

	"loop.example/apimigrator/impl"
)

// checkInlined compares all functions of the chapter that inline with the
// rules, for e and its calls, and counts the results.
func checkInlined(t *testing.T, lib []impl.Def, e impl.Expr, count map[string]int) {
	t.Helper()
	what := textOf(e) + " with " + textOfLibrary(lib)
	counted := func(name string, ok bool) {
		if !ok {
			name = "no " + name
		}
		count[name]++
	}
	for _, c := range callsIn(e) {
		got, ok := impl.InlineCall(lib, c)
		want, wantOk := inlinedByRule(lib, c)
		if wantOk && !impl.ExprValid(want, allVars) {
			want, wantOk = impl.Expr{}, false
		}
		wantSameResult(t, "InlineCall of "+textOf(c)+" in "+what, got, ok, want, wantOk)
		counted("call", ok)
	}
	for _, d := range lib {
		got, ok := impl.InlineFun(lib, e, d.Name)
		want, wantOk := funByRule(lib, e, 1, d.Name)
		wantSameResult(t, "InlineFun of "+string(rune('A'+d.Name))+" in "+what, got, ok, want, wantOk)
		if !sameTree(got, e) {
			counted("fun", ok)
		}
	}
	got, times, ok := impl.InlineOld(lib, e)
	want, wantTimes, wantOk := oldByRule(lib, e, cloned)
	wantSameResult(t, "InlineOld of "+what, got, ok, want, wantOk)
	if times != wantTimes {
		t.Errorf("InlineOld of %s is done %d times, want %d", what, times, wantTimes)
	}
	if times > 1 || !ok {
		counted("old", ok)
	}
	got, ok = impl.InlineTidy(lib, e)
	want, wantOk = tidyOldByRule(lib, e)
	wantSameResult(t, "InlineTidy of "+what, got, ok, want, wantOk)
	if times > 1 || !ok {
		counted("tidy", ok)
	}
}

func TestInlinedRandomExprs(t *testing.T) {
	r := rand.New(rand.NewSource(21))
	count := map[string]int{}
	for i := range 6000 {
		lib, e := callingCase(r)
		if i%3 == 0 {
			lib, e = calmCase(r)
		}
		checkInlined(t, lib, e, count)
	}
	wantCounts(t, count, map[string]int{
		"call": 10000, "no call": 50, "fun": 9000, "no fun": 400, "old": 1000, "no old": 300, "tidy": 1000, "no tidy": 200,
	})
}

func wantCounts(t *testing.T, count, least map[string]int) {
	t.Helper()
	for what, n := range least {
		if count[what] < n {
			t.Errorf("only %d times, there was: %s", count[what], what)
		}
	}
}

// callingExprs are small expressions that bind a and c, and call A, which has
// an argument, and B, which has two.
func callingExprs(levels int) []impl.Expr {
	list := []impl.Expr{num(1), variable(0), variable(2)}
	if levels == 1 {
		return list
	}
	kids := callingExprs(levels - 1)
	for _, x := range kids {
		list = append(list, out(x), call(0, x))
		for _, y := range kids {
			list = append(list, call(1, x, y), let(0, x, y), let(2, x, y))
		}
	}
	return list
}

func TestInlinedSmallExprs(t *testing.T) {
	libs := []string{
		"A1=(a+1)\nB2=(b+a)\n",
		"A1~!a\nB2~{a=b;(a+A(a))}\n",
		"A1={a=!a;(a+a)}\nB2~{c=A(a);A((b+c))}\n",
		"A1~{c=1;{b=a;B(b,c)}}\nB2={b=a;{a=7;!(a+b)}}\n",
		"A1~A(!a)\nB2={a;A(b)}\n",
		"A1=7\nB2~{!b;!a}\n",
		"A1={b=a;{c=b;{d=c;{e=d;{f=e;{g=f;{h=g;!h}}}}}}}\nB2~{c=a;{d=b;{e=!c;{f=!d;(e+f)}}}}\n",
	}
	exprs := callingExprs(3)
	count := map[string]int{}
	for i, text := range libs {
		lib := libraryOf(t, text)
		// All of them with each library would take too long.
		for k := i; k < len(exprs); k += len(libs) {
			checkInlined(t, lib, exprs[k], count)
		}
	}
	wantCounts(t, count, map[string]int{"call": 3000, "no call": 50, "fun": 2500, "no fun": 100, "old": 250, "no old": 100, "no tidy": 100})
}

// checkInlinedSeen compares the outcomes of an expression that comes to an end
// with those of what it is with calls of some functions gone: the same is put
// out, and all other calls are made, in the same order. It reports whether it
// comes to an end.
func checkInlinedSeen(t *testing.T, lib []impl.Def, e, inlined impl.Expr, vars []int, gone func(f int) bool) bool {
	t.Helper()
	before := impl.EvalOpen(lib, e, vars, impl.MaxFuel)
	if before.Code != impl.EvalDone {
		return false
	}
	// It needs no more fuel than before.
	after := impl.EvalOpen(lib, inlined, vars, len(before.Calls))
	what := textOf(inlined) + ", from " + textOf(e) + " with " + textOfLibrary(lib) + ","
	wantSeen(t, what, after, before)
	for f := range impl.MaxFuns {
		if countOf(after.Calls, f) > countOf(before.Calls, f) {
			t.Errorf("%s calls %v, but before, %v", what, after.Calls, before.Calls)
		}
	}
	x, y := slices.DeleteFunc(before.Calls, gone), slices.DeleteFunc(after.Calls, gone)
	if !slices.Equal(x, y) {
		t.Errorf("%s calls %v, but before, %v", what, y, x)
	}
	return true
}

// checkPutOut compares what is put out until the fuel ends: with calls inlined, it lasts longer.
func checkPutOut(t *testing.T, lib []impl.Def, e, inlined impl.Expr, vars []int, fuel int) {
	t.Helper()
	before, after := impl.EvalOpen(lib, e, vars, fuel), impl.EvalOpen(lib, inlined, vars, fuel)
	if len(after.Out) < len(before.Out) || !slices.Equal(after.Out[:len(before.Out)], before.Out) {
		t.Errorf("with fuel %d, %s puts out %v, but before, %s puts out %v", fuel, textOf(inlined), after.Out, textOf(e), before.Out)
	}
}

// checkFitsLike reports calls that do not fit, and variables that were not free before.
func checkFitsLike(t *testing.T, lib []impl.Def, e, inlined impl.Expr) {
	t.Helper()
	if !impl.CallsFit(lib, inlined) {
		t.Errorf("%s does not fit, unlike %s", textOf(inlined), textOf(e))
	}
	for v := range freeIn(inlined) {
		if !freeIn(e)[v] {
			t.Errorf("in %s, %d is free, but not in %s", textOf(inlined), v, textOf(e))
		}
	}
}

func callsNow(e impl.Expr, f int) bool { return namesIn(e, impl.OpCall)[f] }

func TestInlinedFunsLookTheSame(t *testing.T) {
	r := rand.New(rand.NewSource(22))
	inlined, done := 0, 0
	for i := range 6000 {
		lib, e := callingCase(r)
		if i%3 == 0 {
			lib, e = calmCase(r)
		}
		vars := randomValues(r)
		for _, d := range lib {
			got, ok := impl.InlineFun(lib, e, d.Name)
			if !ok || !callsNow(e, d.Name) {
				continue
			}
			inlined++
			checkFitsLike(t, lib, e, got)
			if callsNow(got, d.Name) != callsNow(d.Body, d.Name) {
				t.Errorf("with %s, %s becomes %s", textOfLibrary(lib), textOf(e), textOf(got))
			}
			if checkInlinedSeen(t, lib, e, got, vars, func(f int) bool { return f == d.Name }) {
				done++
			}
			checkPutOut(t, lib, e, got, vars, r.Intn(5))
			checkPutOut(t, lib, e, got, vars, impl.MaxFuel)
		}
	}
	if inlined < 9000 || done < 7000 {
		t.Errorf("only %d are inlined, of which %d are done", inlined, done)
	}
}

func TestInlinedOldFunsLookTheSame(t *testing.T) {
	r := rand.New(rand.NewSource(23))
	old, tidy := 0, 0
	for range 6000 {
		lib, e := callingCase(r)
		vars := randomValues(r)
		isOld := func(f int) bool { d, _ := defOf(lib, f); return d.Old }
		got, times, ok := impl.InlineOld(lib, e)
		if ok && times > 0 {
			checkFitsLike(t, lib, e, got)
			wantInts(t, "OldCalls behind InlineOld", impl.OldCalls(lib, got))
			checkPutOut(t, lib, e, got, vars, r.Intn(5))
			if checkInlinedSeen(t, lib, e, got, vars, isOld) {
				old++
			}
		}
		got, ok = impl.InlineTidy(lib, e)
		if ok {
			checkFitsLike(t, lib, e, got)
			wantInts(t, "OldCalls behind InlineTidy", impl.OldCalls(lib, got))
			quiet, ending := quietByRule(lib), endingByRule(lib)
			if checkInlinedSeen(t, lib, e, got, vars, func(f int) bool { return isOld(f) || quiet[f] && ending[f] }) {
				tidy++
			}
		}
	}
	if old < 2000 || tidy < 3000 {
		t.Errorf("only %d are done by InlineOld, and %d by InlineTidy", old, tidy)
	}
}

func TestInlinedExprsOfWhatCanBeSeen(t *testing.T) {
	lib := libraryOf(t, inlineLibrary)
	for _, c := range []struct {
		text, tidy string
		want       impl.Outcome // with 10 for a, 20 for b, 30 for c and 40 for d
	}{
		// The arguments are evaluated once, in order, also if the Body has them in another order, more than once, or not at all.
		{"F(!1,!2)", "{c=!1;A(!2,c)}", done(3, []int{1, 2})},
		{"D(!1,!2)", "{d=!1;(A(d,d)+!2)}", done(4, []int{1, 2})},
		{"(!1+C(!2))", "(!1+A(!!2,1))", done(4, []int{1, 2, 2})},
		{"(C(1)+{!2;B(!3)})", "(A(!1,1)+{!2;A(!3,1)})", done(6, []int{1, 2, 3})},
		{"B(C(B(!1)))", "A(A(!A(!1,1),1),1)", done(4, []int{1, 2})},
		{"[B(!0)?C(!1):C(!2)]", "[A(!0,1)?A(!!1,1):A(!!2,1)]", done(2, []int{0, 1, 1})},
		// The variables of the arguments are those around the call.
		{"D(c,d)", "(A(c,c)+d)", done(0, nil)},
		{"D((c+1),!c)", "{d=(c+1);(A(d,d)+!c)}", done(92, []int{30})},
		{"{c=!1;D(c,(c+d))}", "{c=!1;(A(c,c)+(c+d))}", done(43, []int{1})},
		{"F(b,a)", "A(a,b)", done(30, nil)},
		{"{b=a;{a=!5;F(b,a)}}", "A(!5,a)", done(15, []int{5})},
	} {
		e := exprOf(t, c.text)
		vars := []int{10, 20, 30, 40}
		wantSeen(t, c.text, impl.EvalOpen(lib, e, vars, 50), c.want)
		old, _, ok := impl.InlineOld(lib, e)
		if !ok {
			t.Errorf("there is no InlineOld of %s", c.text)
		}
		wantSeen(t, textOf(old)+", from "+c.text, impl.EvalOpen(lib, old, vars, 50), c.want)
		tidy, ok := impl.InlineTidy(lib, e)
		wantExpr(t, "InlineTidy of "+c.text, tidy, ok, c.tidy)
		wantSeen(t, textOf(tidy)+", from "+c.text, impl.EvalOpen(lib, tidy, vars, 50), c.want)
	}
}
