package tests

import (
	"math/rand"
	"testing"

	"loop.example/apimigrator/impl"
)

func TestNormalNamesOfExprs(t *testing.T) {
	wantNormal(t, nil, "NormalNames", [][2]string{
		// Without bindings.
		{"7", "="}, {"a", "="}, {"h", "="}, {"(h+b)", "="}, {"[d?!c:(e<f)]", "="}, {"{g;b}", "="}, {"(a+(b+(c+(d+(e+(f+(g+h)))))))", "="},
		// One binding, also if its variable is not used.
		{"{h=1;h}", "{a=1;a}"}, {"{a=1;a}", "="}, {"{b=1;(b+!b)}", "{a=1;(a+!a)}"}, {"{c=!1;2}", "{a=!1;2}"}, {"{a=1;2}", "="}, {"{d=7;{!d;[d?d:8]}}", "{a=7;{!a;[a?a:8]}}"},
		// Numbers are no names.
		{"{b=1;(b+(0+1))}", "{a=1;(a+(0+1))}"}, {"{b=9;((8+b)+9)}", "{a=9;((8+a)+9)}"}, {"{c=8;{d=9;((8+9)+(c+d))}}", "{a=8;{b=9;((8+9)+(a+b))}}"},
		// Beside each other, and in the first operand of another one.
		{"({b=1;b}+{c=2;c})", "({a=1;a}+{a=2;a})"}, {"{{b=1;b};{b=2;b}}", "{{a=1;a};{a=2;a}}"}, {"{c={b=1;b};c}", "{a={a=1;a};a}"},
		{"{b={c=1;{d=2;d}};{e=3;(b+e)}}", "{a={a=1;{b=2;b}};{b=3;(a+b)}}"}, {"{h=1;{g={f=h;(f+h)};(g+h)}}", "{a=1;{b={b=a;(b+a)};(b+a)}}"},
		// Within each other.
		{"{c=1;{b=2;{a=3;A(a,b,c)}}}", "{a=1;{b=2;{c=3;A(c,b,a)}}}"}, {"{a=1;{b=2;{c=3;(a+(b+c))}}}", "="}, {"{b=1;(2+{c=b;!(b+c)})}", "{a=1;(2+{b=a;!(a+b)})}"},
		// In all kinds of nodes.
		{"!{h=!1;!h}", "!{a=!1;!a}"}, {"[{h=1;h}?{g=2;!g}:{f=h;f}]", "[{a=1;a}?{a=2;!a}:{a=h;a}]"}, {"A({h=1;h},{g=2;{h=3;(g+h)}},h)", "A({a=1;a},{a=2;{b=3;(a+b)}},h)"},
		{"({c=1;c}<{d=2;d})", "({a=1;a}<{a=2;a})"}, {"B({c=A();c})", "B({a=A();a})"},
	})
}

// A bound name may be free elsewhere: in front, behind, in a first operand, or far from there.
func TestNormalNamesOfNamesThatAreFree(t *testing.T) {
	wantNormal(t, nil, "NormalNames", [][2]string{
		{"(a+{a=1;a})", "(a+{b=1;b})"}, {"({a=1;a}+a)", "({b=1;b}+a)"}, {"{a=a;a}", "{b=a;b}"}, {"{a=(a+1);{a=(a+2);a}}", "{b=(a+1);{c=(b+2);c}}"}, {"{{a=1;a};a}", "{{b=1;b};a}"},
		{"(b+{b=1;b})", "(b+{a=1;a})"}, {"{b=b;b}", "{a=b;a}"}, {"({a=1;{b=2;(a+b)}}+[1?a:b])", "({c=1;{d=2;(c+d)}}+[1?a:b])"},
		// Free in a part that is not around the binding.
		{"(({c=1;c}+2)+[3?4:a])", "(({b=1;b}+2)+[3?4:a])"}, {"A({c=1;{d=2;d}},b,!a)", "A({c=1;{d=2;d}},b,!a)"}, {"{c=1;{d=2;(c+(d+a))}}", "{b=1;{c=2;(b+(c+a))}}"},
		{"{d=1;{e=2;(b+(d+e))}}", "{a=1;{c=2;(b+(a+c))}}"}, {"{a=b;{c=a;{b=c;(a+(b+c))}}}", "{a=b;{c=a;{d=c;(a+(d+c))}}}"}, {"{b={a=1;a};(a+b)}", "{b={b=1;b};(a+b)}"},
		// What is bound everywhere is free nowhere.
		{"{b=1;{a=b;{b=a;(a+b)}}}", "{a=1;{b=a;{c=b;(b+c)}}}"},
	})
}

// The same variable is bound twice.
func TestNormalNamesOfNamesThatAreBoundTwice(t *testing.T) {
	wantNormal(t, nil, "NormalNames", [][2]string{
		{"{a=1;{a=2;a}}", "{a=1;{b=2;b}}"}, {"{a=1;{a=a;a}}", "{a=1;{b=a;b}}"}, {"{b=1;{b=2;{b=3;b}}}", "{a=1;{b=2;{c=3;c}}}"}, {"{c=1;({c=2;c}+c)}", "{a=1;({b=2;b}+a)}"},
		{"{c=1;(c+{c=2;c})}", "{a=1;(a+{b=2;b})}"}, {"{b={b=1;b};b}", "{a={a=1;a};a}"}, {"({b=1;b}+{b=2;b})", "({a=1;a}+{a=2;a})"}, {"{a=1;{b=2;{a=b;(a+b)}}}", "{a=1;{b=2;{c=b;(c+b)}}}"},
		{"{a=a;{a=a;{a=a;a}}}", "{b=a;{c=b;{d=c;d}}}"}, {"{a=1;{{a=2;a};{{a=3;a};a}}}", "{a=1;{{b=2;b};{{b=3;b};a}}}"}, {"{a=1;{a=2;{b=a;{b=b;{a=a;(a+b)}}}}}", "{a=1;{b=2;{c=b;{d=c;{e=b;(e+d)}}}}}"},
	})
}

func TestNormalNamesWhereThereAreNone(t *testing.T) {
	const all = "(a+(b+(c+(d+(e+(f+(g+h)))))))"
	wantNormal(t, nil, "NormalNames", [][2]string{
		// As many as there are variables, within each other.
		{"{h=1;{g=h;{f=g;{e=f;{d=e;{c=d;{b=c;{a=b;a}}}}}}}}", "{a=1;{b=a;{c=b;{d=c;{e=d;{f=e;{g=f;{h=g;h}}}}}}}}"},
		{"{a=1;{a=2;{a=3;{a=4;{a=5;{a=6;{a=7;{a=8;a}}}}}}}}", "{a=1;{b=2;{c=3;{d=4;{e=5;{f=6;{g=7;{h=8;h}}}}}}}}"},
		{"{a=1;{a=2;{a=3;{a=4;{a=5;{a=6;{a=7;{a=8;{a=9;a}}}}}}}}}", "-"}, {"{a=1;{b=2;{c=3;{d=4;{e=5;{f=6;{g=7;{h=8;{a=9;0}}}}}}}}}", "-"},
		{"{a=1;{a=2;{a=3;{a=4;{a=5;{a=6;{a=7;{a=8;{b={a=9;a};a}}}}}}}}}", "-"},
		{"{a=1;{a=2;{a=3;{a=4;{a=5;{a=6;{a=7;{a={a=8;a};a}}}}}}}}", "{a=1;{b=2;{c=3;{d=4;{e=5;{f=6;{g=7;{h={h=8;h};h}}}}}}}}"},
		{"{a=1;{a=2;{a=3;{a=4;{a=5;{a=6;{a=7;({a=8;a}+{a=9;a})}}}}}}}", "{a=1;{b=2;{c=3;{d=4;{e=5;{f=6;{g=7;({h=8;h}+{h=9;h})}}}}}}}"},
		// Fewer, where some are free.
		{"({a=1;{a=2;{a=3;{a=4;{a=5;{a=6;{a=7;a}}}}}}}+h)", "({a=1;{b=2;{c=3;{d=4;{e=5;{f=6;{g=7;g}}}}}}}+h)"},
		{"({a=1;{a=2;{a=3;{a=4;{a=5;{a=6;{a=7;{a=8;a}}}}}}}}+h)", "-"}, {"({a=1;{a=2;{a=3;{a=4;{a=5;{a=6;{a=7;a}}}}}}}+(b+h))", "-"},
		{"{h=(a+(b+(c+(d+(e+(f+g))))));h}", "="}, {"{a=(h+(b+(c+(d+(e+(f+g))))));a}", "="}, {"{a=(a+(b+(c+(d+(e+(f+g))))));{a=2;a}}", "-"}, {"{a=(h+(b+(c+(d+(e+(f+g))))));{h=2;3}}", "-"},
		{all, "="}, {"{" + all + ";{a=1;a}}", "-"}, {"{" + all + ";{a=1;2}}", "-"}, {"[0?{h=1;2}:" + all + "]", "-"}, {"{a=" + all + ";a}", "-"},
	})
}

func TestNormalNamesAtTheLimits(t *testing.T) {
	for _, c := range [][2]impl.Expr{
		{wide(80), wide(80)}, {chain(14), chain(14)}, {let(3, num(1), closedWide(78)), let(0, num(1), closedWide(78))}, {let(3, num(1), chain(13)), let(0, num(1), chain(13))},
		{let(7, chain(13), deep(13)), let(0, chain(13), withLeaves(deep(13), variable(0)))}, {let(3, num(1), wide(78)), let(0, num(1), wide(78))}, {let(7, num(1), wide(78)), let(0, num(1), withLeaves(wide(78), variable(0)))},
	} {
		got, ok := impl.NormalNames(c[0])
		wantSameResult(t, "NormalNames of "+textOf(c[0]), got, ok, c[1], true)
		checkNormal(t, nil, c[0], map[string]int{})
	}
}

func TestNormalNamesOfSmallExprs(t *testing.T) {
	count := map[string]int{}
	for _, e := range letExprs(3) {
		checkNormal(t, nil, e, count)
	}
	lib := libraryOf(t, "A0=7\n")
	for _, e := range tangled(3) {
		checkNormal(t, lib, e, count)
	}
	wantCounts(t, count, map[string]int{"NormalNames": 5000, "as it is by NormalNames": 2000, "ToSteps": 10000, "as it is by ToSteps": 1000, "in steps": 1000, "SwapLets": 50, "no SwapLets": 5000})
}

func TestNormalRandomExprs(t *testing.T) {
	r := rand.New(rand.NewSource(51))
	count := map[string]int{}
	for i := range 12000 {
		lib, e := bindingCase(r)
		switch i % 3 {
		case 0:
			lib, e = calmCase(r)
		case 1:
			lib, e = swapCase(r)
		}
		checkNormal(t, lib, e, count)
	}
	wantCounts(t, count, map[string]int{
		"NormalNames": 4000, "no NormalNames": 120, "as it is by NormalNames": 2000, "ToSteps": 4000, "no ToSteps": 1000, "as it is by ToSteps": 2000, "in steps": 2000, "SwapLets": 1000, "no SwapLets": 5000,
	})
}

// What is equal but for bound names has the same normal form, and this one is of the same kind.
func TestNormalNamesAreThoseOfAllThatIsTheSame(t *testing.T) {
	r := rand.New(rand.NewSource(52))
	other := 0
	for range 8000 {
		_, a := bindingCase(r)
		b := renamed(r, a)
		x, ok := impl.NormalNames(a)
		y, sameOk := impl.NormalNames(b)
		wantSameResult(t, "NormalNames of "+textOf(b)+", like "+textOf(a), y, sameOk, x, ok)
		if !ok {
			continue
		}
		if !impl.SameNames(a, x) || indexed(a, -1, "") != indexed(x, -1, "") {
			t.Errorf("SameNames of %s and its normal form %s is false", textOf(a), textOf(x))
		}
		again, ok := impl.NormalNames(x)
		wantSameResult(t, "NormalNames of the normal "+textOf(x), again, ok, x, true)
		if !sameTree(a, b) {
			other++
		}
		c := changed(r, a)
		z, ok := impl.NormalNames(c)
		if ok && sameTree(z, x) != impl.SameNames(a, c) {
			t.Errorf("%s and %s have the normal forms %s and %s", textOf(a), textOf(c), textOf(x), textOf(z))
		}
	}
	if other < 2000 {
		t.Errorf("only %d have other names", other)
	}
}
