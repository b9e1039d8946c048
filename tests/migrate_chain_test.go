package tests

import (
	"math/rand"
	"slices"
	"testing"

	"loop.example/apimigrator/impl"
)

func TestMigrateEdits(t *testing.T) {
	a, b := libraryOf(t, migrateLibrary), libraryOf(t, "A2=(a+b)\nG0=!7\n")
	for _, c := range []struct {
		text string
		want []impl.Edit
	}{
		// It fits already, or becomes another expression as a whole.
		{"7", nil}, {"{1;2}", nil}, {"{a=1;(A(a,2)+{3;4})}", nil},
		{"{B(1);2}", []impl.Edit{{From: 0, To: 8, Text: "2"}}}, {"B(!7)", []impl.Edit{{From: 0, To: 5, Text: "A(!7,1)"}}}, {"C(B(1))", []impl.Edit{{From: 0, To: 7, Text: "A(!A(1,1),1)"}}},
		// Only parts of it become others.
		{"!B(1)", []impl.Edit{{From: 1, To: 5, Text: "A(1,1)"}}}, {"(!1+{!2;B(3)})", []impl.Edit{{From: 8, To: 12, Text: "A(3,1)"}}},
		{"(B(!1)+{!2;B(3)})", []impl.Edit{{From: 1, To: 6, Text: "A(!1,1)"}, {From: 11, To: 15, Text: "A(3,1)"}}},
		{"A(B(1),[!1?B(2):3])", []impl.Edit{{From: 2, To: 6, Text: "A(1,1)"}, {From: 11, To: 15, Text: "A(2,1)"}}},
		// What is only tidied is among them.
		{"({1;!2}+({3;4}<B(5)))", []impl.Edit{{From: 1, To: 7, Text: "!2"}, {From: 9, To: 14, Text: "4"}, {From: 15, To: 19, Text: "A(5,1)"}}},
		{"F(!1,!2)", []impl.Edit{{From: 0, To: 8, Text: "{c=!1;A(!2,c)}"}}},
		// A Body with the same shape: only the operands differ.
		{"(G()+H(G()))", []impl.Edit{{From: 5, To: 11, Text: "A(G(),1)"}}},
	} {
		got, ok := impl.MigrateEdits(a, b, exprOf(t, c.text))
		if !ok || !slices.Equal(got, c.want) {
			t.Errorf("MigrateEdits of %s = %v, %v, want %v", c.text, got, ok, c.want)
		}
		checkMigrated(t, a, b, exprOf(t, c.text), map[string]int{})
	}
	for _, text := range []string{"E(1)", "(B(1)+E(2))", "B(a)", "A(1)", "H(1,2)"} {
		if got, ok := impl.MigrateEdits(a, b, exprOf(t, text)); ok || len(got) != 0 {
			t.Errorf("MigrateEdits of %s = %v, %v", text, got, ok)
		}
	}
	if got, ok := impl.MigrateEdits(libraryOf(t, "A1=a\n"), libraryOf(t, "A2=a\n"), exprOf(t, "A(1)")); ok || len(got) != 0 {
		t.Errorf("MigrateEdits to another Arity = %v, %v", got, ok)
	}
}

func TestCanMigrate(t *testing.T) {
	for _, c := range []struct {
		a, b string
		want []int
	}{
		{"", "", nil}, {"", "A0=1\n", nil}, {"A0=1\n", "", []int{0}},
		{migrateLibrary, migrateLibrary, []int{0, 1, 2, 3, 4, 5, 6, 7}},
		{migrateLibrary, "A2=(a+b)\n", []int{0, 1, 2, 3, 5, 6, 7}}, {migrateLibrary, "", []int{0, 1, 2, 3, 5, 6, 7}}, {migrateLibrary, "G0=!8\n", []int{0, 1, 2, 3, 5, 6, 7}},
		// Functions that stay are among them, whatever they become.
		{"A1=a\nB1=A(a)\n", "A1~!a\nB1=7\nC0=1\n", []int{0, 1}}, {"A1=A(a)\nC1~A(a)\n", "A1=A(!a)\n", []int{0, 2}},
		// Another Arity.
		{"A1=a\nB0=1\n", "A2=a\nB0=1\n", []int{1}}, {"A1=a\nB1~A(a)\n", "A2=a\n", nil}, {"A1=a\nB1~[0?A(a):a]\n", "A2=a\n", []int{1}}, {"A0=1\nB3~A()\n", "A1=1\n", nil},
		// Functions that never end, or in a circle.
		{"A1=A(a)\n", "", nil}, {"A0=B()\nB0=A()\nC0=2\n", "", []int{2}}, {"A0=B()\nB0=A()\nC0=2\n", "B0=1\n", []int{0, 1, 2}}, {"A0=B()\nB0=A()\nC0=2\n", "A0=1\n", []int{0, 1, 2}},
		// What an argument is cannot be seen before: it is put out.
		{"A1~[a?A(a):7]\n", "", nil}, {"A2~[b?1:A(a,b)]\n", "", nil}, {"A1~[1?a:A(a)]\n", "", []int{0}}, {"A0~[0?A():7]\n", "", []int{0}}, {"A1~[(a<9)?7:A(a)]\n", "", nil},
		// Each argument is there.
		{"A3={!a;(b+c)}\nB2=A(b,a,1)\nC1=B(a,a)\nD0=C(1)\n", "", []int{0, 1, 2, 3}}, {"A3={!a;(b+c)}\nB2=A(b,a,1)\nC1=B(a,a)\nD0=C(1)\n", "A3=0\n", []int{0, 1, 2, 3}},
		// There are no fresh variables for what is called.
		{"A1~{b=!a;{c=!b;{d=!c;{e=!d;{f=!e;{g=!f;{h=!g;(((a+b)+(c+d))+((e+f)+(g+h)))}}}}}}}\nB1~{b=!a;{c=!b;{d=!c;{e=!d;{f=!e;{g=!f;(((a+b)+(c+d))+((e+f)+g))}}}}}}\n", "", []int{1}},
	} {
		a, b := libraryOf(t, c.a), libraryOf(t, c.b)
		wantInts(t, "CanMigrate from "+c.a+" to "+c.b, impl.CanMigrate(a, b), c.want...)
		wantInts(t, "by the rule, CanMigrate from "+c.a+" to "+c.b, canMigrateByRule(a, b), c.want...)
	}
	wantInts(t, "CanMigrate of 8 functions", impl.CanMigrate(eightFuns(), nil))
	wantInts(t, "CanMigrate of 8 functions to one", impl.CanMigrate(eightFuns(), libraryWith(1, num(1))), allVars...)
	// With three arguments, there are 9 nodes besides those of the Body.
	for nodes, want := range map[int]int{71: 1, 72: 0} {
		body := add(loud(nodes-4), add(variable(0), variable(0)))
		if got := impl.CanMigrate([]impl.Def{def(3, 3, body)}, nil); len(got) != want {
			t.Errorf("CanMigrate of a Body with %d nodes = %v", nodes, got)
		}
	}
}

// The library changes what A does, and C what B is.
func stepsOf(t *testing.T) [][]impl.Def {
	t.Helper()
	return chainOf(t, "A1=a\nB1~A(a)\nC0~B(!1)\n", "A1~(a+1)\nC0~A(!2)\n", "D1=(a+!3)\n", "D1~{1;a}\nE1=D(a)\n", "E1~!a\n", "")
}

func TestMigrateChains(t *testing.T) {
	for _, c := range []struct {
		from, to   int
		text, want string
	}{
		// One version of the chain: it stays as it is.
		{0, 0, "{1;B(2)}", "="}, {2, 2, "{1;D({2;3})}", "="}, {5, 5, "{1;2}", "="}, {5, 5, "7", "="},
		// What a function becomes is what it is in the version before it goes.
		{0, 1, "B(!1)", "A(!1)"}, {0, 2, "B(!1)", "(!1+1)"}, {1, 2, "A(!1)", "(!1+1)"}, {0, 1, "C()", "="}, {0, 2, "C()", "(!2+1)"}, {0, 1, "A({1;2})", "="}, {0, 2, "A({1;2})", "3"},
		{0, 5, "B(!1)", "(!1+1)"}, {0, 5, "(C()+(B(1)+A(2)))", "((!2+1)+5)"}, {1, 5, "C()", "(!2+1)"},
		{2, 3, "D(1)", "="}, {2, 4, "D(!1)", "!1"}, {2, 5, "D(!1)", "!1"}, {3, 4, "E(D(!1))", "E(!1)"}, {3, 5, "E(D(!1))", "!!1"}, {4, 5, "E({1;2})", "!2"}, {3, 5, "(D(1)+E(2))", "(1+!2)"},
		// It is not a client of the first one, but of others.
		{0, 0, "D(1)", "-"}, {0, 1, "D(1)", "-"}, {0, 5, "D(1)", "-"}, {1, 2, "B(1)", "-"}, {1, 1, "B(1)", "-"}, {3, 3, "A(1)", "-"}, {5, 5, "E(1)", "-"}, {0, 0, "a", "-"}, {0, 5, "A(a)", "-"}, {0, 3, "A(1,2)", "-"},
		// There are no such versions.
		{-1, 0, "7", "-"}, {-1, -1, "7", "-"}, {0, 6, "7", "-"}, {6, 6, "7", "-"}, {5, 6, "7", "-"}, {-1, 6, "7", "-"}, {-1 << 63, 1<<63 - 1, "7", "-"}, {1<<63 - 1, 1<<63 - 1, "7", "-"}, {0, 1 << 62, "B(1)", "-"},
		// The first one is behind the last one.
		{1, 0, "7", "-"}, {5, 0, "7", "-"}, {5, 4, "7", "-"}, {2, 1, "D(1)", "-"}, {1, 0, "A(1)", "-"}, {0, -1, "7", "-"}, {6, 5, "7", "-"},
	} {
		got, ok := impl.MigrateChain(stepsOf(t), c.from, c.to, exprOf(t, c.text))
		wantText(t, "MigrateChain of "+c.text, got, ok, c.text, c.want)
		if c.want != "-" {
			want, wantOk := chainMigratedByRule(stepsOf(t), c.from, c.to, exprOf(t, c.text))
			wantSameResult(t, "MigrateChain of "+c.text, got, ok, want, wantOk)
		}
	}
}

// With one version, nothing is to be done; but it has to be there, and the expression has to be its client.
func TestMigrateChainsOfOneVersion(t *testing.T) {
	for _, text := range []string{"", "A1=a\nB1~A(a)\nE1=E(a)\n"} {
		one := chainOf(t, text)
		for _, client := range []string{"7", "{1;2}", "{a=1;(a+2)}", "B({1;2})", "E(A(1))", "a", "B()", "C(1)"} {
			e := exprOf(t, client)
			want := "="
			if !isClientOf(one[0], e) {
				want = "-"
			}
			got, ok := impl.MigrateChain(one, 0, 0, e)
			wantText(t, "MigrateChain of "+client, got, ok, client, want)
			for _, p := range [][2]int{{0, 1}, {1, 1}, {1, 0}, {-1, 0}, {-1, -1}, {0, -1}, {-1, 1}} {
				got, ok = impl.MigrateChain(one, p[0], p[1], e)
				wantNoExpr(t, "MigrateChain of "+client+" where there is no version", got, ok)
			}
		}
	}
	for _, p := range [][2]int{{0, 0}, {-1, -1}, {0, -1}} {
		got, ok := impl.MigrateChain(nil, p[0], p[1], num(1))
		wantNoExpr(t, "MigrateChain without versions", got, ok)
		got, ok = impl.MigrateChain([][]impl.Def{}, p[0], p[1], num(1))
		wantNoExpr(t, "MigrateChain without versions", got, ok)
	}
}

// A step that is not possible is no reason for the steps before.
func TestMigrateChainsWithAStepThatIsNotPossible(t *testing.T) {
	steps := chainOf(t, "A1~[a?A(a):7]\nB1~A(a)\nC0=1\n", "A1~A(a)\nC0=1\n", "C0=1\n", "C0~2\nD0=C()\n")
	for _, c := range []struct {
		from, to   int
		text, want string
	}{
		{0, 1, "B(1)", "A(1)"}, {0, 1, "B(0)", "A(0)"}, {0, 2, "B(1)", "-"}, {0, 2, "B(0)", "-"}, {0, 3, "A(1)", "-"}, {1, 2, "A(0)", "-"}, {1, 1, "A(0)", "="}, {0, 3, "{A(1);C()}", "-"}, {0, 3, "{1;C()}", "="}, {0, 3, "[0?A(1):2]", "2"},
	} {
		got, ok := impl.MigrateChain(steps, c.from, c.to, exprOf(t, c.text))
		wantText(t, "MigrateChain of "+c.text, got, ok, c.text, c.want)
		want, wantOk := chainMigratedByRule(steps, c.from, c.to, exprOf(t, c.text))
		wantSameResult(t, "MigrateChain of "+c.text, got, ok, want, wantOk)
	}
	// Without the version between, it would be possible.
	got, ok := impl.MigrateExpr(steps[0], steps[2], exprOf(t, "B(0)"))
	wantExpr(t, "MigrateExpr of B(0)", got, ok, "7")
}

// The whole chain has to be valid, also in front of the first version and behind the last one.
func TestMigrateChainsThatAreNotValid(t *testing.T) {
	const one, retired, other = "A1=a\n", "A1~a\n", "A2=a\n"
	for _, texts := range [][]string{
		{one, ""}, {one, other}, {retired, other}, {"", one, ""}, {one, one, ""}, {one, "", one}, {one, other, ""}, {retired, one, ""}, {"", "", "", "", "", "", ""}, {one, one, one, one, one, one, one},
	} {
		steps := chainOf(t, texts...)
		for from := range len(steps) {
			for to := range len(steps) {
				for _, text := range []string{"7", "{1;2}", "A(1)", "A(1,2)"} {
					got, ok := impl.MigrateChain(steps, from, to, exprOf(t, text))
					wantNoExpr(t, "MigrateChain of "+text, got, ok)
				}
			}
		}
	}
}

func TestMigrateRandomChains(t *testing.T) {
	r := rand.New(rand.NewSource(43))
	count := map[string]int{}
	for range 3000 {
		a, b, e := migrationCase(r)
		steps := [][]impl.Def{a, b}
		for len(steps) < 2+r.Intn(3) {
			steps = append(steps, versionWithout(r, steps[len(steps)-1]))
		}
		if r.Intn(8) > 0 {
			steps = validSteps(steps)
		}
		for to := range len(steps) + 1 {
			got, ok := impl.MigrateChain(steps, 0, to, e)
			var want impl.Expr
			wantOk := to < len(steps)
			if wantOk {
				want, wantOk = chainMigratedByRule(steps, 0, to, e)
			}
			wantSameResult(t, "MigrateChain of "+textOf(e), got, ok, want, wantOk)
			if ok && to > 1 && !sameTree(got, e) {
				count["migrated"]++
			}
			if !ok && to < len(steps) && chainByRule(steps) {
				count["not migrated"]++
			}
		}
	}
	wantCounts(t, count, map[string]int{"migrated": 1000, "not migrated": 40})
}

// validSteps puts out of use what goes, and leaves out versions with another Arity.
func validSteps(steps [][]impl.Def) [][]impl.Def {
	list := [][]impl.Def{clonedLibrary(steps[0])}
	for _, b := range steps[1:] {
		a := list[len(list)-1]
		for i, d := range a {
			if _, ok := defOf(b, d.Name); !ok {
				a[i].Old = true
			}
		}
		if chainByRule([][]impl.Def{a, b}) {
			list = append(list, clonedLibrary(b))
		}
	}
	return list
}
