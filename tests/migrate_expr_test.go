package tests

import (
	"math/rand"
	"strconv"
	"testing"

	"loop.example/apimigrator/impl"
)

const migrateLibrary = "A2=(a+b)\nB1~A(a,1)\nC1~B(!a)\nD2~{c=A(a,a);(c+b)}\nE1~[a?E(a):7]\nF2~A(b,a)\nG0=!7\nH1=B(a)\n"

// A client that fits already stays as it is: it is not tidied.
func TestMigrateWhatFits(t *testing.T) {
	a := libraryOf(t, migrateLibrary)
	for _, text := range []string{"7", "{1;2}", "(1+2)", "[1?2:3]", "{a=1;a}", "{a=!1;(a+2)}", "A(1,2)", "{A(1,2);{a=B(3);4}}", "E(1)", "(E(1)+{1;E(0)})", "{G();[0?H(1):C(D(1,2))]}"} {
		wantMigrated(t, a, a, [][3]string{{text, "=", "="}})
		// With the same functions, and one of more.
		wantMigrated(t, a[:7], a, [][3]string{{"{1;G()}", "=", "="}, {"{a=1;A(a,a)}", "=", "="}})
	}
	b := libraryOf(t, "A2~(a+b)\nB1=A(a,1)\nE1=[a?E(a):7]\nG0=!8\n")
	wantMigrated(t, a, b, [][3]string{
		// Being out of use or not is no difference.
		{"A(1,{2;3})", "=", "="}, {"{a=1;B(a)}", "=", "="}, {"E({1;2})", "=", "="}, {"{1;(2+3)}", "=", "="},
		// Only the one that is strict looks at Bodies.
		{"{1;G()}", "=", "!7"}, {"(G()+(1+2))", "=", "(!7+3)"}, {"{G();{1;B(2)}}", "=", "{!7;B(2)}"},
		// It is tidied as a whole if there is something to inline.
		{"{1;C(2)}", "B(!2)", "B(!2)"}, {"({1;2}+C({3;4}))", "(2+B(!4))", "(2+B(!4))"}, {"{C(1);{a=2;B(a)}}", "{B(!1);B(2)}", "{B(!1);B(2)}"},
	})
	wantMigrated(t, nil, nil, [][3]string{{"{1;2}", "=", "="}, {"7", "=", "="}})
	wantMigrated(t, nil, a, [][3]string{{"{1;2}", "=", "="}})
	wantMigrated(t, a, nil, [][3]string{{"{1;2}", "=", "="}, {"!{a=1;a}", "=", "="}})
}

func TestMigrateWhatIsGone(t *testing.T) {
	a, b := libraryOf(t, migrateLibrary), libraryOf(t, "A2=(a+b)\nG0=!7\n")
	wantMigrated(t, a, b, [][3]string{
		{"B(7)", "A(7,1)", "A(7,1)"}, {"B(!7)", "A(!7,1)", "A(!7,1)"}, {"(B(1)+B(!2))", "(A(1,1)+A(!2,1))", "(A(1,1)+A(!2,1))"},
		{"F(!1,!2)", "{c=!1;A(!2,c)}", "{c=!1;A(!2,c)}"}, {"B(B(!1))", "A(A(!1,1),1)", "A(A(!1,1),1)"}, {"D(!1,!2)", "{d=!1;(A(d,d)+!2)}", "{d=!1;(A(d,d)+!2)}"},
		// A function that is gone and calls one that is gone.
		{"C(2)", "A(!2,1)", "A(!2,1)"}, {"H(!1)", "A(!1,1)", "A(!1,1)"}, {"(C(1)+H(2))", "(A(!1,1)+A(2,1))", "(A(!1,1)+A(2,1))"}, {"C(H(B(!3)))", "A(!A(A(!3,1),1),1)", "A(!A(A(!3,1),1),1)"},
		// They go because tidying removes them, before or in between.
		{"{B(1);{1;2}}", "2", "2"}, {"[0?E(1):2]", "2", "2"}, {"{a=E(1);2}", "-", "-"}, {"[B(0)?E(1):2]", "-", "-"}, {"E(0)", "7", "7"}, {"E({1;0})", "7", "7"},
		// They do not end.
		{"E(1)", "-", "-"}, {"(A(1,2)+E(!0))", "-", "-"}, {"[!1?2:E(1)]", "-", "-"}, {"{E(0);E(1)}", "-", "-"},
		// There are no fresh variables, unless it is tidied before.
		{"D({c=!1;{d=!c;((c+d)+(d+c))}},{e=!2;{f=!e;{g=!f;((e+f)+((g+e)+(f+g)))}}})", "-", "-"},
		{"D({c=1;{d=!c;((c+d)+(d+c))}},{e=!2;{f=!e;{g=f;((e+f)+((g+e)+(f+g)))}}})", "{g={d=!1;((1+d)+(d+1))};(A(g,g)+{e=!2;{f=!e;((e+f)+((f+e)+(f+f)))}})}", "{g={d=!1;((1+d)+(d+1))};(A(g,g)+{e=!2;{f=!e;((e+f)+((f+e)+(f+f)))}})}"},
		// What is called besides, or as well.
		{"(G()+C(1))", "(G()+A(!1,1))", "(G()+A(!1,1))"}, {"{G();B(1)}", "{G();A(1,1)}", "{G();A(1,1)}"}, {"A(B(1),B(2))", "A(A(1,1),A(2,1))", "A(A(1,1),A(2,1))"},
		{"{a=!1;{b=!2;F(a,(a+b))}}", "{a=!1;A((a+!2),a)}", "{a=!1;A((a+!2),a)}"}, {"{b=!1;{c=!2;F(b,c)}}", "{c=!1;A(!2,c)}", "{c=!1;A(!2,c)}"},
	})
	// Nothing is left.
	wantMigrated(t, a, nil, [][3]string{
		{"A(1,2)", "3", "3"}, {"C(!1)", "(!!1+1)", "(!!1+1)"}, {"G()", "!7", "!7"}, {"{G();H(1)}", "{!7;2}", "{!7;2}"}, {"(A(1,2)+A(!3,4))", "(3+(!3+4))", "(3+(!3+4))"}, {"E(1)", "-", "-"},
	})
	// A function in use goes as well as one out of use.
	wantMigrated(t, libraryOf(t, "A1=a\nB1=A(!a)\nC1~A(!a)\n"), libraryOf(t, "A1=a\n"), [][3]string{{"B(1)", "A(!1)", "A(!1)"}, {"C(1)", "A(!1)", "A(!1)"}})
	// Functions in a circle, from all of which nothing leads out.
	wantMigrated(t, libraryOf(t, "A0~C()\nB0~(A()+1)\nC0~A()\n"), nil, [][3]string{{"A()", "-", "-"}, {"B()", "-", "-"}, {"C()", "-", "-"}, {"{C();1}", "-", "-"}})
	// One of the circle stays.
	wantMigrated(t, libraryOf(t, "A0~C()\nB0~(A()+1)\nC0~A()\n"), libraryOf(t, "C0=7\n"), [][3]string{{"A()", "C()", "-"}, {"B()", "(C()+1)", "-"}, {"{C();1}", "=", "-"}})
}

// The versions tell what goes, and the first one what it becomes.
func TestMigrateWithTheOldDefinitions(t *testing.T) {
	a := libraryOf(t, "A1=(a+1)\nB1~A(a)\nC0=!3\nD1=C()\nE1=E(a)\n")
	b := libraryOf(t, "A1=(a+2)\nC0=4\nD1=C()\nE1=(a+E(a))\n")
	wantMigrated(t, a, b, [][3]string{
		{"A(!1)", "=", "(!1+1)"}, {"B(!1)", "A(!1)", "(!1+1)"}, {"C()", "=", "!3"}, {"D(1)", "=", "!3"}, {"(A(!1)+B(!2))", "(A(!1)+A(!2))", "((!1+1)+(!2+1))"},
		// A function that is kept calls one that is not.
		{"{D(1);A(2)}", "=", "{!3;3}"}, {"{B(1);D(!2)}", "D(!2)", "{b=!2;!3}"},
		{"E(1)", "=", "-"}, {"(B(1)+E(2))", "(A(1)+E(2))", "-"}, {"[0?E(1):B(2)]", "A(2)", "3"},
	})
	// What is pure is so in the first version.
	wantMigrated(t, libraryOf(t, "A0=1\nB0~2\n"), libraryOf(t, "A0=!1\n"), [][3]string{{"{A();B()}", "2", "2"}, {"{a=A();B()}", "2", "2"}, {"{A();3}", "=", "3"}})
	wantMigrated(t, libraryOf(t, "A0=!1\nB0~2\n"), libraryOf(t, "A0=1\n"), [][3]string{{"{A();B()}", "{A();2}", "{!1;2}"}, {"{a=A();B()}", "{a=A();2}", "{a=!1;2}"}, {"{A();3}", "=", "{!1;3}"}})
	wantMigrated(t, libraryOf(t, "A0=A()\nB0~2\n"), libraryOf(t, "A0=1\n"), [][3]string{{"{A();B()}", "{A();2}", "-"}})
	// The Bodies are not tidied, but what they become is.
	wantMigrated(t, libraryOf(t, "A1={1;a}\nB1~A({2;a})\n"), libraryOf(t, "A1={1;a}\n"), [][3]string{{"A({3;4})", "=", "="}, {"B({3;4})", "A(4)", "A(4)"}})
	wantMigrated(t, libraryOf(t, "A1={1;a}\nB1~A({2;a})\n"), libraryOf(t, "A1=a\n"), [][3]string{{"A({3;4})", "=", "4"}, {"B({3;4})", "A(4)", "4"}})
}

// The result has to be a client of the second version, also if nothing is gone.
func TestMigrateToAnotherArity(t *testing.T) {
	a, b := libraryOf(t, "A1=(a+1)\nB1~A(a)\nC0=7\nD0~C()\n"), libraryOf(t, "A2=(a+b)\nC0=7\n")
	wantMigrated(t, a, b, [][3]string{
		{"A(1)", "-", "2"}, {"A(!1)", "-", "(!1+1)"}, {"{1;A(!2)}", "-", "(!2+1)"}, {"B(!1)", "-", "(!1+1)"}, {"(A(1)+B(2))", "-", "5"}, {"(C()+B(!2))", "-", "(C()+(!2+1))"},
		// Without its calls, or where tidying removes these.
		{"C()", "=", "="}, {"{1;C()}", "=", "="}, {"D()", "C()", "C()"}, {"{A(1);D()}", "C()", "C()"}, {"{A(1);C()}", "-", "C()"}, {"[0?A(1):D()]", "C()", "C()"},
	})
	wantMigrated(t, libraryOf(t, "A1=1\n"), libraryOf(t, "A0=1\n"), [][3]string{{"A(2)", "-", "1"}, {"{1;2}", "=", "="}})
	wantMigrated(t, libraryOf(t, "A0=1\n"), libraryOf(t, "A1=1\n"), [][3]string{{"A()", "-", "1"}, {"{1;2}", "=", "="}})
}

// The first one of the list is inlined, and the list is made anew each time.
func TestMigrateInOrder(t *testing.T) {
	// Once A is inlined, tidying removes the call of C, which would never end.
	a := libraryOf(t, "A1~0\nB1~C(a)\nC1~[A(a)?C(a):7]\nD1=a\n")
	wantMigrated(t, a, a[3:], [][3]string{
		{"B(!1)", "{b=!1;7}", "{b=!1;7}"}, {"C(!1)", "{b=!1;7}", "{b=!1;7}"}, {"(A(!1)+B(2))", "({b=!1;0}+7)", "({b=!1;0}+7)"},
	})
	wantMigrated(t, a, a[:1], [][3]string{{"C(1)", "-", "-"}})
	// The number of the function counts, and not its place in the client.
	a = libraryOf(t, "A1~{b=!a;(b+b)}\nC1~(a+a)\n")
	wantMigrated(t, a, nil, [][3]string{{"C(A(!1))", "{c={b=!!1;(b+b)};(c+c)}", "{c={b=!!1;(b+b)};(c+c)}"}})
	a = libraryOf(t, "B1~(a+a)\nC1~{b=!a;(b+b)}\n")
	wantMigrated(t, a, nil, [][3]string{{"B(C(!1))", "{b={b=!!1;(b+b)};(b+b)}", "{b={b=!!1;(b+b)};(b+b)}"}})
	a = libraryOf(t, "A1~(a+B(a))\nB1~(a+C(a))\nC1~(a+D(a))\nD1~!a\n")
	wantMigrated(t, a, nil, [][3]string{{"A(!1)", "{b=!1;(b+(b+(b+!b)))}", "{b=!1;(b+(b+(b+!b)))}"}, {"A(1)", "(1+(1+(1+!1)))", "(1+(1+(1+!1)))"}})
	wantMigrated(t, a, a[3:], [][3]string{{"A(1)", "(1+(1+(1+D(1))))", "(1+(1+(1+D(1))))"}, {"D(B(1))", "D((1+(1+D(1))))", "D((1+(1+D(1))))"}})
}

// Each time, the number becomes one less: it may be done 20 times.
func TestMigrateTimes(t *testing.T) {
	a := libraryOf(t, "A1~[a?A((a+99)):!50]\nB1~A(a)\nC0=1\n")
	same := func(want string) [3]string { return [3]string{"", want, want} }
	for n := range 30 {
		number := strconv.Itoa(n)
		for text, times := range map[string]int{"A(" + number + ")": n + 1, "B(" + number + ")": n + 2, "!A((C()+" + number + "))": 99} {
			c := same("-")
			if times <= 20 {
				c = same("!50")
			}
			c[0] = text
			wantMigrated(t, a, a[2:], [][3]string{c})
		}
	}
	lib := libraryOf(t, countingLibrary)
	for n := range 32 {
		e := countingExpr(n)
		_, ok := impl.MigrateExpr(lib, nil, e)
		_, strict := impl.MigrateStrict(lib, nil, e)
		if ok != (n <= 20) || strict != ok {
			t.Errorf("%s is migrated in %d times: %v, %v", textOf(e), n, ok, strict)
		}
		checkMigrated(t, lib, nil, e, map[string]int{})
	}
}

func TestMigrateWithinTheLimits(t *testing.T) {
	for _, c := range []struct {
		lib  []impl.Def
		e    impl.Expr
		want bool
	}{
		{[]impl.Def{def(0, 0, loud(20))}, add(call(0), loud(59)), true}, {[]impl.Def{def(0, 0, loud(20))}, add(call(0), loud(60)), false},
		{[]impl.Def{def(0, 0, chain(7))}, within(7, call(0)), true}, {[]impl.Def{def(0, 0, chain(7))}, within(8, call(0)), false},
		{[]impl.Def{def(0, 0, loud(40))}, add(call(0), call(0)), false}, {[]impl.Def{def(0, 0, loud(39))}, add(call(0), call(0)), true},
		// It is too large before it is tidied, but not in the end.
		{[]impl.Def{def(0, 0, seq(num(1), loud(20)))}, add(call(0), loud(57)), true}, {[]impl.Def{def(0, 0, seq(num(1), loud(20)))}, add(call(0), loud(58)), false},
		// It is tidied before.
		{[]impl.Def{def(0, 0, loud(20))}, add(call(0), seq(num(1), loud(59))), true},
	} {
		for what, migrate := range map[string]func(a, b []impl.Def, e impl.Expr) (impl.Expr, bool){"MigrateExpr": impl.MigrateExpr, "MigrateStrict": impl.MigrateStrict} {
			if got, ok := migrate(c.lib, nil, c.e); ok != c.want || !ok && !isZero(got) {
				t.Errorf("%s of %s with %s = %s, %v", what, textOf(c.e), textOfLibrary(c.lib), textOf(got), ok)
			}
		}
		checkMigrated(t, c.lib, nil, c.e, map[string]int{})
	}
}

// loud has the given number of nodes, of which none are removed by tidying if there are more than one.
func loud(nodes int) impl.Expr {
	if nodes <= 4 {
		return chain(nodes)
	}
	left := (nodes - 1) / 2
	return add(loud(left), loud(nodes-1-left))
}

func TestMigrateRandomClients(t *testing.T) {
	r := rand.New(rand.NewSource(42))
	count := map[string]int{}
	for i := range 8000 {
		a, b, e := migrationCase(r)
		if i%4 == 0 {
			a, b, e = versionsCase(r)
		}
		checkMigrated(t, a, b, e, count)
		if i%8 < 3 {
			wantInts(t, "CanMigrate from\n"+textOfLibrary(a)+"to\n"+textOfLibrary(b), impl.CanMigrate(a, b), canMigrateByRule(a, b)...)
		}
	}
	wantCounts(t, count, map[string]int{
		"expr": 2000, "no expr": 150, "as it is by expr": 2500, "strict": 3000, "no strict": 70, "as it is by strict": 1500, "chain": 400, "as it is by chain": 1000,
	})
}
