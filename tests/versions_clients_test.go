package tests

import (
	"math/rand"
	"testing"

	"loop.example/apimigrator/impl"
)

func TestFitsBoth(t *testing.T) {
	const (
		first  = "A1=a\nB1~A(a)\nC0=7\nE2=(a+b)\n"
		second = "A1=(a+0)\nC0~7\nD2=A(b)\nE1=!a\n"
	)
	a, b := libraryOf(t, first), libraryOf(t, second)
	for text, want := range map[string]bool{
		"7": true, "(!1+{a=2;a})": true, "A(1)": true, "C()": true, "(A(1)+C())": true, "{a=C();A(A(a))}": true, "[C()?A(1):!2]": true,
		// The function is gone, new, or has another arity.
		"B(1)": false, "D(1,2)": false, "E(1,2)": false, "E(1)": false, "A(B(1))": false, "[0?D(1,2):C()]": false, "{E(1,2);7}": false,
		// It is in neither, or fits in neither.
		"F()": false, "A(1,2)": false, "A()": false, "C(1)": false, "H(1)": false,
		// What has free variables is no client.
		"a": false, "A(a)": false, "(C()+b)": false, "{a=1;(a+b)}": false,
	} {
		if got := impl.FitsBoth(a, b, exprOf(t, text)); got != want {
			t.Errorf("FitsBoth of %s = %v", text, got)
		}
		if got := impl.FitsBoth(b, a, exprOf(t, text)); got != want {
			t.Errorf("FitsBoth the other way of %s = %v", text, got)
		}
	}
	for text, fits := range map[string][2]bool{"B(1)": {true, false}, "D(1,2)": {false, true}, "E(1,2)": {true, false}, "E(1)": {false, true}, "a": {}} {
		e := exprOf(t, text)
		if impl.FitsBoth(a, a, e) != fits[0] || impl.FitsBoth(b, b, e) != fits[1] {
			t.Errorf("FitsBoth of %s with the same version twice is not %v", text, fits)
		}
	}
	if !impl.FitsBoth(nil, nil, num(1)) || impl.FitsBoth(nil, a, call(2)) || impl.FitsBoth(a, nil, call(2)) || !impl.FitsBoth(a, nil, num(1)) {
		t.Error("FitsBoth without functions is wrong")
	}
}

func TestKeptFuns(t *testing.T) {
	const graph = "A1=a\nB1=A(a)\nC1=B(a)\nD0=7\nE1=!C(a)\nF2=(D()+b)\n"
	for _, c := range []struct {
		a, b string
		want []int
	}{
		{"", "", nil},
		{"", "A0=1\n", nil},
		{"A0=1\n", "", nil},
		{"A1=a\nB1~A(a)\n", "A1=(a+0)\n", nil},
		{graph, graph, []int{0, 1, 2, 3, 4, 5}},
		// Being out of use is no difference, and functions that are new are not from a.
		{"A1=a\nB1=A(a)\n", "A1~a\nB1~A(a)\n", []int{0, 1}},
		{"A1~a\nC1~A(a)\n", "A1=a\nB0=1\nC1=A(a)\nD0=2\n", []int{0, 2}},
		// A function is not kept if one is not that it calls, also within others.
		{graph, "A1=(a+0)\nB1=A(a)\nC1=B(a)\nD0=7\nE1=!C(a)\nF2=(D()+b)\n", []int{3, 5}},
		{graph, "A1=a\nB1=A((a+0))\nC1=B(a)\nD0=7\nE1=!C(a)\nF2=(D()+b)\n", []int{0, 3, 5}},
		{graph, "A1=a\nB1=A(a)\nC1=a\nD0=7\nE1=!C(a)\nF2=(D()+b)\n", []int{0, 1, 3, 5}},
		{graph, "A1=a\nB1=A(a)\nC1=B(a)\nD0=8\nE1=!C(a)\nF2=(D()+b)\n", []int{0, 1, 2, 4}},
		{graph, "A1=a\nB1=A(a)\nC1=B(a)\nD0=7\nE1=C(a)\nF2=(D()+b)\n", []int{0, 1, 2, 3, 5}},
		{graph, "A1=a\nB1=A(a)\nC1=B(a)\nE1=!C(a)\n", []int{0, 1, 2, 4}},
		{graph, "D0=7\nF2=(D()+b)\n", []int{3, 5}},
		{graph, "A2=a\nB1=A(a,1)\nC1=B(a)\nD0=7\nE1=!C(a)\nF2=(D()+b)\n", []int{3, 5}},
		{graph, "F2=(1+b)\n", nil},
		// Another arity with the same Body, and the other way round.
		{"A1=1\nB0=2\n", "A2=1\nB0=2\n", []int{1}},
		{"A1=a\nB0=2\n", "A1={b=a;b}\nB0=2\n", []int{1}},
		{"A1={b=a;b}\nB0=2\n", "A1={c=a;c}\nB0=2\n", []int{1}},
		// What is called in a counts, and not what is called in b.
		{"A0=1\nB0=2\n", "A0=3\nB0=2\n", []int{1}},
		{"A0=1\nB0=A()\nC0=2\n", "A0=C()\nB0=A()\nC0=2\n", []int{2}},
		// Calls in branches that are not evaluated count.
		{"A0=1\nB0=[1?2:A()]\n", "A0=3\nB0=[1?2:A()]\n", nil},
		{"A0=1\nB0={a=A();2}\n", "A0=3\nB0={a=A();2}\n", nil},
		// Circles.
		{"A1=A(a)\n", "A1=A(a)\n", []int{0}},
		{"A1=A(a)\n", "A1~A(!a)\n", nil},
		{"A1=B(a)\nB1=C(a)\nC1=A(a)\nD0=1\n", "A1=B(a)\nB1=C(a)\nC1=A(a)\nD0=2\n", []int{0, 1, 2}},
		{"A1=B(a)\nB1=C(a)\nC1=A(a)\nD0=1\n", "A1=B(a)\nB1=C(a)\nC1=a\nD0=1\n", []int{3}},
		{"A1=B(a)\nB1=C(a)\nC1=B(a)\nD0=1\nE0=D()\n", "A1=!B(a)\nB1=C(a)\nC1=B(a)\nD0=1\nE0=D()\n", []int{1, 2, 3, 4}},
		{"A0=H()\nH0=H()\n", "A0=H()\nH0=H()\n", []int{0, 7}},
	} {
		wantInts(t, "KeptFuns from "+c.a+" to "+c.b, impl.KeptFuns(libraryOf(t, c.a), libraryOf(t, c.b)), c.want...)
		wantVersions(t, libraryOf(t, c.a), libraryOf(t, c.b))
	}
	wantInts(t, "KeptFuns of 8 functions", impl.KeptFuns(eightFuns(), eightFuns()), 0, 1, 2, 3, 4, 5, 6, 7)
	changed := eightFuns()
	changed[7].Body = num(1)
	wantInts(t, "KeptFuns of 8 functions, one of them changed", impl.KeptFuns(eightFuns(), changed))
}

// The changes from a to b tell which clients of a are clients of b as well: those
// that call no function that is gone, or that has another arity.
func TestChangesTellWhatClientsFit(t *testing.T) {
	r := rand.New(rand.NewSource(32))
	count := map[string]int{}
	for range 20000 {
		a, b, e := versionsCase(r)
		called := namesIn(e, impl.OpCall)
		want := true
		for _, x := range impl.ChangesOf(a, b) {
			if (x.Kind == impl.ChangeGone || x.Kind == impl.ChangeArity) && called[x.Name] {
				want = false
			}
		}
		if got := impl.FitsBoth(a, b, e); got != want || got != impl.ClientValid(b, e) {
			t.Fatalf("from\n%sto\n%sFitsBoth of %s = %v", textOfLibrary(a), textOfLibrary(b), textOf(e), got)
		}
		if impl.LevelOf(a, b) < impl.LevelMajor {
			count["minor"]++
			if !want {
				t.Fatalf("from\n%sto\n%sthere is a change for %s, but the level is %d", textOfLibrary(a), textOfLibrary(b), textOf(e), impl.LevelOf(a, b))
			}
		}
		switch {
		case want && len(called) > 0:
			count["fits"]++
		case !want:
			count["does not fit"]++
		}
	}
	wantCounts(t, count, map[string]int{"minor": 2000, "fits": 4000, "does not fit": 1000})
}

// Below LevelMinor, the clients of both versions are the same ones.
func TestLevelsTellWhatClientsFit(t *testing.T) {
	libs := smallVersions()
	clients := []impl.Expr{num(1), call(0), call(0, num(1)), call(1), call(1, num(2)), call(7), call(7, num(3)), add(call(0), call(7)), add(call(1), call(7, num(1)))}
	for _, a := range libs {
		for _, b := range libs {
			level := impl.LevelOf(a, b)
			for _, e := range clients {
				inA, inB := impl.ClientValid(a, e), impl.ClientValid(b, e)
				if level <= impl.LevelPatch && inA != inB || level <= impl.LevelMinor && inA && !inB || impl.FitsBoth(a, b, e) != (inA && inB) {
					t.Fatalf("from\n%sto\n%sthe level is %d, but %s is a client: %v, %v", textOfLibrary(a), textOfLibrary(b), level, textOf(e), inA, inB)
				}
			}
		}
	}
}

// A client that only calls functions that are kept has the same outcome in both versions.
func TestKeptFunsHaveTheSameOutcomes(t *testing.T) {
	r := rand.New(rand.NewSource(33))
	same, other := 0, 0
	for range 20000 {
		a, b, e := versionsCase(r)
		kept := map[int]bool{}
		for _, f := range impl.KeptFuns(a, b) {
			kept[f] = true
		}
		all := true
		for f := range namesIn(e, impl.OpCall) {
			all = all && kept[f]
		}
		x, y := impl.EvalClient(a, e, 50), impl.EvalClient(b, e, 50)
		if all {
			wantOutcome(t, textOf(e)+" from\n"+textOfLibrary(a)+"to\n"+textOfLibrary(b), y, x)
			if len(x.Calls) > 0 {
				same++
			}
		} else if !sameOutcome(x, y) {
			other++
		}
	}
	if same < 500 || other < 1000 {
		t.Errorf("there are only %d clients of kept functions, and %d with another outcome", same, other)
	}
}
