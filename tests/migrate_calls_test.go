package tests

import (
	"math/rand"
	"slices"
	"testing"

	"loop.example/apimigrator/impl"
)

func TestGoneCalls(t *testing.T) {
	const first = "A2=(a+b)\nB1~A(a,1)\nC1~B(!a)\nD0=7\nE1=E(a)\nH0~C(1)\n"
	for _, c := range []struct {
		second, text  string
		gone, changed []int
	}{
		// The client calls nothing, or nothing goes.
		{"", "7", nil, nil}, {"A0=1\n", "(!1+{a=2;a})", nil, nil},
		{first, "(A(1,B(2))+{C(3);E(H())})", nil, nil},
		{first + "", "H()", nil, nil},
		// It is no difference whether functions are out of use.
		{"A2~(a+b)\nB1=A(a,1)\nC1~B(!a)\nD0~7\n", "(A(1,2)+(B(3)+(C(4)+D())))", nil, nil},
		// Functions that are gone, in ascending order, also out of use or not.
		{"", "D()", []int{3}, []int{3}}, {"", "(H()+(B(1)+A(2,3)))", []int{0, 1, 7}, []int{0, 1, 7}}, {"", "(B(1)+(B(2)+B(3)))", []int{1}, []int{1}},
		{"A2=(a+b)\n", "(A(1,2)+B(3))", []int{1}, []int{1}}, {"B1=a\n", "(A(1,2)+B(3))", []int{0}, []int{0, 1}},
		// Calls in each place of a client.
		{"D0=7\n", "A(1,B(D()))", []int{0, 1}, []int{0, 1}}, {"D0=7\n", "!{a=B(1);[D()?C(2):{H();a}]}", []int{1, 2, 7}, []int{1, 2, 7}}, {"D0=7\n", "(D()<E(1))", []int{4}, []int{4}},
		// What is called within functions is not looked at by the one, but by the other.
		{"A2=(a+b)\nC1=A(!a,1)\n", "C(2)", nil, []int{2}}, {"A2=(a+b)\nC1=A(!a,1)\n", "(B(1)+C(2))", []int{1}, []int{1, 2}},
		{"A2=(b+a)\nB1~A(a,1)\nC1~B(!a)\nD0=7\n", "(D()+{C(1);B(2)})", nil, []int{1, 2}}, {"A2=(b+a)\nB1~A(a,1)\nC1~B(!a)\n", "(D()+C(1))", []int{3}, []int{2, 3}},
		{"D0=7\nH0=D()\n", "(H()+D())", nil, []int{7}}, {"A2=(a+b)\nB1~A(a,1)\nC1~B(a)\nH0~C(1)\n", "{H();B(1)}", nil, []int{7}},
		// The Arity is another one, also with the same Body.
		{"A1=a\nD0=7\n", "(A(1,2)+D())", nil, []int{0}}, {"D1=7\n", "D()", nil, []int{3}}, {"D0=7\nE2=7\n", "E(D())", nil, []int{4}},
		// The function calls itself.
		{"E1=E(a)\n", "E(1)", nil, nil}, {"E1=E(!a)\n", "E(1)", nil, []int{4}}, {"D0=7\n", "E(1)", []int{4}, []int{4}},
		// Functions that are new.
		{"D0=7\nF0=D()\nG1=a\n", "(A(1,2)+D())", []int{0}, []int{0}},
	} {
		a, b, e := libraryOf(t, first), libraryOf(t, c.second), exprOf(t, c.text)
		wantInts(t, "GoneCalls of "+c.text+" to "+c.second, impl.GoneCalls(a, b, e), c.gone...)
		wantInts(t, "ChangedCalls of "+c.text+" to "+c.second, impl.ChangedCalls(a, b, e), c.changed...)
		wantInts(t, "by the rule, GoneCalls of "+c.text, goneByRule(a, b, e), c.gone...)
		wantInts(t, "by the rule, ChangedCalls of "+c.text, notKeptByRule(a, b, e), c.changed...)
	}
	wantInts(t, "GoneCalls of 8 functions", impl.GoneCalls(eightFuns(), nil, allCalls()), allVars...)
	wantInts(t, "ChangedCalls of 8 functions", impl.ChangedCalls(eightFuns(), nil, allCalls()), allVars...)
	wantInts(t, "ChangedCalls of 8 functions without the last one", impl.ChangedCalls(eightFuns(), libraryWith(1, variable(0)), allCalls()), allVars...)
}

// allCalls calls each of eightFuns, the last one outermost.
func allCalls() impl.Expr {
	e := num(1)
	for f := range impl.MaxFuns {
		e = call(f, e)
	}
	return e
}

func TestMigrateAllCalls(t *testing.T) {
	lib := eightFuns()
	for f := range lib {
		lib[f].Body = add(variable(0), num(1))
	}
	for n := range impl.MaxFuns + 1 {
		b := lib[n:]
		got, ok := impl.MigrateExpr(lib, b, allCalls())
		want, wantOk := migratedByRule(lib, b, allCalls(), goneByRule)
		wantSameResult(t, "MigrateExpr of 8 calls", got, ok, want, wantOk)
		if !ok || len(callsIn(got)) != impl.MaxFuns-n {
			t.Errorf("without the first %d functions, 8 calls become %s", n, textOf(got))
		}
		wantSeen(t, textOf(got), impl.EvalClient(b, got, 8), done(9, nil))
	}
}

// For a client that has only its own calls, what is gone is what a change says that is gone.
func TestGoneCallsAreGone(t *testing.T) {
	r := rand.New(rand.NewSource(41))
	some := 0
	for range 4000 {
		a, b, e := migrationCase(r)
		var gone []int
		for _, x := range impl.ChangesOf(a, b) {
			if x.Kind == impl.ChangeGone && callsNow(e, x.Name) {
				gone = append(gone, x.Name)
			}
		}
		got, changed := impl.GoneCalls(a, b, e), impl.ChangedCalls(a, b, e)
		wantInts(t, "GoneCalls of "+textOf(e), got, gone...)
		for _, f := range got {
			if !slices.Contains(changed, f) {
				t.Errorf("GoneCalls of %s = %v, but ChangedCalls = %v", textOf(e), got, changed)
			}
		}
		if len(got) == 0 && impl.FitsBoth(a, b, e) != isClientOf(b, e) || len(got) > 0 && impl.FitsBoth(a, b, e) {
			t.Errorf("GoneCalls of %s = %v, but FitsBoth = %v", textOf(e), got, impl.FitsBoth(a, b, e))
		}
		if len(got) > 0 && len(changed) > len(got) {
			some++
		}
	}
	if some < 200 {
		t.Errorf("only %d clients have calls of both kinds", some)
	}
}
