package tests

import (
	"math/rand"
	"testing"

	"loop.example/apimigrator/impl"
)

func TestStepsOfExprs(t *testing.T) {
	wantNormal(t, nil, "ToSteps", [][2]string{
		// With atoms only.
		{"7", "="}, {"a", "="}, {"(a+1)", "="}, {"(1<h)", "="}, {"A()", "="}, {"A(a,1,b)", "="}, {"!a", "="}, {"!0", "="}, {"[a?1:b]", "="}, {"{a=1;a}", "="}, {"{1;a}", "="},
		// An operand of each kind of node, and operands of each kind.
		{"!!1", "{a=!1;!a}"}, {"((1+2)+3)", "{a=(1+2);(a+3)}"}, {"(1+(2+3))", "{a=(2+3);(1+a)}"}, {"((1+2)<3)", "{a=(1+2);(a<3)}"}, {"(1<!2)", "{a=!2;(1<a)}"}, {"[!1?2:3]", "{a=!1;[a?2:3]}"},
		{"A(!1)", "{a=!1;A(a)}"}, {"A(A(1))", "{a=A(1);A(a)}"}, {"A(B(),1)", "{a=B();A(a,1)}"}, {"!{a=1;a}", "{b={a=1;a};!b}"}, {"!{1;2}", "{a={1;2};!a}"}, {"![1?2:3]", "{a=[1?2:3];!a}"}, {"!(1<2)", "{a=(1<2);!a}"},
		// Several operands.
		{"((1+2)<(3+4))", "{a=(1+2);{b=(3+4);(a<b)}}"}, {"A((1+2),3,!4)", "{a=(1+2);{b=!4;A(a,3,b)}}"}, {"A(1,!2,!3)", "{a=!2;{b=!3;A(1,a,b)}}"}, {"A(!1,!2,!3)", "{a=!1;{b=!2;{c=!3;A(a,b,c)}}}"},
		// Those of an OpLet or an OpSeq stay.
		{"{a=(1+2);a}", "="}, {"{!1;!2}", "="}, {"{a=!1;!a}", "="}, {"{a={b=!1;b};{!a;A(a)}}", "="}, {"{{!1;!2};{!3;!4}}", "="}, {"{a=!!1;a}", "{a={b=!1;!b};a}"}, {"{a=1;!!a}", "{a=1;{b=!a;!b}}"},
		{"{(1+!2);3}", "{{a=!2;(1+a)};3}"}, {"{1;A(!2)}", "{1;{a=!2;A(a)}}"}, {"{!!1;!!2}", "{{a=!1;!a};{b=!2;!b}}"}, {"{!(1+2);{a=!(3+4);!(5+6)}}", "{{b=(1+2);!b};{a={c=(3+4);!c};{d=(5+6);!d}}}"},
		// Within each other: an operand is made, and then gets its variable, before the next one is made.
		{"!!!1", "{b={a=!1;!a};!b}"}, {"((!1+!2)+!3)", "{c={a=!1;{b=!2;(a+b)}};{d=!3;(c+d)}}"}, {"(!1+(!2+!3))", "{a=!1;{d={b=!2;{c=!3;(b+c)}};(a+d)}}"}, {"((1+(2+3))+(4+5))", "{b={a=(2+3);(1+a)};{c=(4+5);(b+c)}}"},
		{"(A(!2,1)+A(!3,1))", "{b={a=!2;A(a,1)};{d={c=!3;A(c,1)};(b+d)}}"}, {"A(A(!1),A(!2))", "{b={a=!1;A(a)};{d={c=!2;A(c)};A(b,d)}}"}, {"A(1,!!2,!!3)", "{b={a=!2;!a};{d={c=!3;!c};A(1,b,d)}}"},
	})
}

// The names of steps stand nowhere in the expression, neither free nor bound.
func TestStepsHaveFreshNames(t *testing.T) {
	wantNormal(t, nil, "ToSteps", [][2]string{
		{"(!a+!b)", "{c=!a;{d=!b;(c+d)}}"}, {"(!b+!d)", "{a=!b;{c=!d;(a+c)}}"}, {"(A(1)+!b)", "{a=A(1);{c=!b;(a+c)}}"}, {"(!1+a)", "{b=!1;(b+a)}"}, {"(a+!1)", "{b=!1;(a+b)}"},
		// Free or bound elsewhere, in front, behind or far from there.
		{"{!!1;a}", "{{b=!1;!b};a}"}, {"{!!1;{a=2;3}}", "{{b=!1;!b};{a=2;3}}"}, {"[a?!!1:b]", "[a?{c=!1;!c}:b]"}, {"[1?!!2:{a=3;{b=4;5}}]", "[1?{c=!2;!c}:{a=3;{b=4;5}}]"}, {"({a=1;a}+!2)", "{b={a=1;a};{c=!2;(b+c)}}"},
		{"{a=1;{b=2;!(a+b)}}", "{a=1;{b=2;{c=(a+b);!c}}}"}, {"{a=!!1;{b=!!2;(!a+!b)}}", "{a={c=!1;!c};{b={d=!2;!d};{e=!a;{f=!b;(e+f)}}}}"}, {"{h=1;{g=2;!!(h+g)}}", "{h=1;{g=2;{b={a=(h+g);!a};!b}}}"},
		// Bound twice.
		{"{a=!1;{a=!2;!(a+a)}}", "{a=!1;{a=!2;{b=(a+a);!b}}}"}, {"({a=1;!a}+{a=2;!a})", "{b={a=1;!a};{c={a=2;!a};(b+c)}}"}, {"{a=a;!{a=!!a;a}}", "{a=a;{c={a={b=!a;!b};a};!c}}"}, {"{a=1;{a=(a+!2);(a+!a)}}", "{a=1;{a={b=!2;(a+b)};{c=!a;(a+c)}}}"},
		// Not taken again in another branch, or behind.
		{"[1?!!2:!!3]", "[1?{a=!2;!a}:{b=!3;!b}]"}, {"{!!1;{!!2;!!3}}", "{{a=!1;!a};{{b=!2;!b};{c=!3;!c}}}"},
	})
}

// A branch is evaluated only if it is the one, and puts out what it does only then.
func TestStepsOfBranchesWithOutputs(t *testing.T) {
	wantNormal(t, nil, "ToSteps", [][2]string{
		{"[a?!1:!2]", "="}, {"[1?!2:3]", "="}, {"[0?A(1):B()]", "="}, {"[!1?!2:!3]", "{a=!1;[a?!2:!3]}"}, {"[1?!!2:(3+!4)]", "[1?{a=!2;!a}:{b=!4;(3+b)}]"}, {"[(1+!2)?!3:4]", "{b={a=!2;(1+a)};[b?!3:4]}"},
		{"([a?!1:!2]+!3)", "{b=[a?!1:!2];{c=!3;(b+c)}}"}, {"![a?!1:!2]", "{b=[a?!1:!2];!b}"}, {"[[1?!2:!3]?!4:!5]", "{a=[1?!2:!3];[a?!4:!5]}"}, {"[!1?2:[!3?4:5]]", "{a=!1;[a?2:{b=!3;[b?4:5]}]}"},
		{"[(a<b)?{!a;!(a+b)}:{c=!!b;!c}]", "{d=(a<b);[d?{!a;{e=(a+b);!e}}:{c={f=!b;!f};!c}]}"}, {"A([!1?!2:!3],!4)", "{b={a=!1;[a?!2:!3]};{c=!4;A(b,c)}}"}, {"[{!1;!2}?{!3;4}:{5;!6}]", "{a={!1;!2};[a?{!3;4}:{5;!6}]}"},
	})
	// What is put out is what was put out.
	for _, c := range []struct {
		text string
		want impl.Outcome // with 0 for a, 1 for b and 2 for c
	}{
		{"[a?!5:!6]", done(6, []int{6})}, {"[b?!5:!6]", done(5, []int{5})}, {"[!a?!5:!6]", done(6, []int{0, 6})}, {"([!b?(!5+!6):!7]+!8)", done(19, []int{1, 5, 6, 8})}, {"([!a?(!5+!6):!7]+!8)", done(15, []int{0, 7, 8})},
		{"[a?!!5:[!c?(1+!6):!!7]]", done(7, []int{2, 6})}, {"![(a<b)?!(1+!2):!!3]", done(3, []int{2, 3, 3})},
	} {
		e := exprOf(t, c.text)
		got, ok := impl.ToSteps(e)
		if !ok || !impl.IsSteps(got) {
			t.Errorf("ToSteps of %s = %s, %v", c.text, textOf(got), ok)
		}
		wantOutcome(t, c.text, impl.EvalOpen(nil, e, []int{0, 1, 2}, 0), c.want)
		wantOutcome(t, textOf(got), impl.EvalOpen(nil, got, []int{0, 1, 2}, 0), c.want)
	}
}

func TestStepsWhereThereAreNoNames(t *testing.T) {
	const all = "(a+(b+(c+(d+(e+(f+(g+h)))))))"
	wantNormal(t, nil, "ToSteps", [][2]string{
		{"!!!!!!!!!1", "{h={g={f={e={d={c={b={a=!1;!a};!b};!c};!d};!e};!f};!g};!h}"}, {"!!!!!!!!!!1", "-"}, {"!!!!!!!!h", "{g={f={e={d={c={b={a=!h;!a};!b};!c};!d};!e};!f};!g}"}, {"!!!!!!!!!a", "-"},
		{"{h=1;!!!!!!!!2}", "{h=1;{g={f={e={d={c={b={a=!2;!a};!b};!c};!d};!e};!f};!g}}"}, {"{h=1;!!!!!!!!!2}", "-"}, {"{!!!!!!!!2;{h=1;h}}", "{{g={f={e={d={c={b={a=!2;!a};!b};!c};!d};!e};!f};!g};{h=1;h}}"}, {"{!!!!!!!!!2;{h=1;3}}", "-"},
		{"{(!1+!2);{(!3+!4);{(!5+!6);(!7+!8)}}}", "{{a=!1;{b=!2;(a+b)}};{{c=!3;{d=!4;(c+d)}};{{e=!5;{f=!6;(e+f)}};{g=!7;{h=!8;(g+h)}}}}}"}, {"{(!1+!2);{(!3+!4);{(!5+!6);{(!7+!8);!!9}}}}", "-"}, {"{(!1+!2);{(!3+!4);{(!5+!6);{(!7+!8);!a}}}}", "-"},
		{"{A(!1,!2,!3);{A(!4,!5,!6);A(!7,!8,9)}}", "{{a=!1;{b=!2;{c=!3;A(a,b,c)}}};{{d=!4;{e=!5;{f=!6;A(d,e,f)}}};{g=!7;{h=!8;A(g,h,9)}}}}"}, {"{A(!1,!2,!3);{A(!4,!5,!6);A(!7,!8,!9)}}", "-"},
		// None is needed, although there is none.
		{"{a;{b;{c;{d;{e;{f;{g;h}}}}}}}", "="}, {"{a;{b;{c;{d;{e;{f;{g;!h}}}}}}}", "="}, {"{a;{b;{c;{d;{e;{f;{g;!!h}}}}}}}", "-"}, {"{a=1;{b=2;{c=3;{d=4;{e=5;{f=6;{g=7;{h=8;!h}}}}}}}}", "="}, {"{a=1;{b=2;{c=3;{d=4;{e=5;{f=6;{g=7;{h=8;!!1}}}}}}}}", "-"},
		{all, "-"}, {"{a=" + all + ";1}", "-"}, {"[0?" + all + ":1]", "-"},
	})
}

// seqs has the given number of nodes, and is in steps.
func seqs(nodes int) impl.Expr {
	if nodes <= 2 {
		return chain(nodes)
	}
	left := (nodes - 1) / 2
	return seq(seqs(left), seqs(nodes-1-left))
}

// behind puts e behind as many expressions, each on a level.
func behind(levels int, e impl.Expr) impl.Expr {
	for range levels {
		e = seq(num(1), e)
	}
	return e
}

func TestStepsAtTheLimits(t *testing.T) {
	one, long := out(num(1)), behind(10, num(2)) // of a depth of 11
	for _, c := range []struct {
		e    impl.Expr
		want bool
	}{
		// Each step has two nodes more.
		{seqs(80), true}, {seq(out(one), seqs(74)), true}, {seq(out(one), seqs(75)), false}, {seq(out(one), seqs(76)), false},
		{add(one, seqs(73)), true}, {add(one, seqs(74)), false}, {add(num(1), seqs(76)), true}, {add(num(1), seqs(77)), false}, {call(0, one, one, seqs(69)), true}, {call(0, one, one, seqs(70)), false},
		{seq(chain(10), seqs(53)), true}, {seq(chain(10), seqs(54)), false}, {let(0, seqs(39), seqs(40)), true}, {choice(one, seqs(37), seqs(38)), true}, {choice(one, seqs(38), seqs(38)), false},
		// A further operand becomes a level deeper.
		{behind(13, num(1)), true}, {add(behind(12, num(1)), num(1)), true}, {add(num(1), behind(12, num(1))), true}, {behind(2, add(num(1), long)), true}, {behind(1, add(one, long)), true}, {behind(2, add(one, long)), false},
		{call(0, one, one, long), true}, {behind(1, call(0, one, one, long)), false}, {behind(1, call(0, one, long, one)), true}, {behind(2, call(0, one, long, one)), false}, {behind(2, call(0, long, one, one)), true},
		// So does the node in the innermost one.
		{behind(11, out(one)), true}, {behind(12, one), true}, {behind(11, out(out(num(1)))), true}, {behind(11, add(one, one)), false}, {behind(10, add(one, one)), true}, {behind(10, call(0, one, one, one)), false}, {behind(9, call(0, one, one, one)), true},
		// A branch becomes as much deeper as there is around the condition.
		{choice(one, behind(11, num(1)), num(1)), true}, {choice(one, behind(12, num(1)), num(1)), false}, {choice(num(1), behind(12, num(1)), num(1)), true}, {choice(one, num(1), behind(12, num(1))), false},
	} {
		got, ok := impl.ToSteps(c.e)
		if ok != c.want || !ok && !isZero(got) {
			t.Errorf("ToSteps of %s = %s, %v", textOf(c.e), textOf(got), ok)
		}
		if !impl.ExprValid(c.e, nil) {
			t.Errorf("%s is not valid", textOf(c.e))
		}
		checkNormal(t, nil, c.e, map[string]int{})
	}
}

func TestIsSteps(t *testing.T) {
	for text, want := range map[string]bool{
		"7": true, "a": true, "(a+1)": true, "(a<b)": true, "!a": true, "A()": true, "A(1,a,2)": true, "[a?b:1]": true, "{a=1;a}": true, "{a;b}": true,
		// Operands of an OpLet or an OpSeq, and branches, of any kind.
		"{a=!1;!a}": true, "{a=(1+2);(a+a)}": true, "{a=A(1);A(a)}": true, "{a=[1?2:3];{b={1;2};{c={a=1;a};4}}}": true, "{!1;!2}": true, "{{1;2};{3;4}}": true, "{A();(1<2)}": true, "[a?!1:A(2)]": true, "[1?{2;3}:{a=4;!a}]": true, "[1?[2?3:4]:[5?6:7]]": true,
		// All others.
		"!!1": false, "!(1+2)": false, "!A()": false, "!{1;2}": false, "!{a=1;a}": false, "![1?2:3]": false, "(!1+2)": false, "(1+!2)": false, "(A()<1)": false, "(1<{2;3})": false, "A(!1)": false, "A(1,!2)": false, "A(1,2,(3+4))": false, "A(B())": false,
		"[!1?2:3]": false, "[(1<2)?2:3]": false, "[[1?2:3]?4:5]": false, "[{1;2}?3:4]": false, "[A()?1:2]": false,
		// Within others.
		"{a=!!1;a}": false, "{a=1;!!a}": false, "{!!1;2}": false, "{1;!!2}": false, "[1?!!2:3]": false, "[1?2:!!3]": false, "{a=1;{b=2;[a?{3;(4+!5)}:6]}}": false, "{a=1;{b=2;[a?{3;(4+5)}:6]}}": true, "{a={b={c=!!1;c};b};a}": false, "{a={b={c=!1;c};b};a}": true,
	} {
		if got := impl.IsSteps(exprOf(t, text)); got != want {
			t.Errorf("IsSteps of %s = %v", text, got)
		}
		if got := inStepsByRule(exprOf(t, text)); got != want {
			t.Errorf("by the rule, %s is in steps: %v", text, got)
		}
	}
	for _, e := range []impl.Expr{seqs(80), behind(13, num(1)), behind(12, out(num(1))), let(0, seqs(39), seqs(40))} {
		if !impl.IsSteps(e) {
			t.Errorf("IsSteps of %s is false", textOf(e))
		}
	}
	for _, e := range []impl.Expr{seqs(81), behind(14, num(1)), behind(13, out(num(1))), let(0, seqs(40), seqs(40)), seq(num(1), seqs(79))} {
		if impl.IsSteps(e) {
			t.Errorf("IsSteps of %s holds, which is too large", textOf(e))
		}
	}
}

// Expressions that are not in steps are exactly those that ToSteps changes.
func TestStepsStayAsTheyAre(t *testing.T) {
	r := rand.New(rand.NewSource(53))
	count := map[string]int{}
	for i := range 8000 {
		_, e := bindingCase(r)
		if i%2 == 0 {
			_, e = calmCase(r)
		}
		got, ok := impl.ToSteps(e)
		if !ok {
			count["none"]++
			if impl.IsSteps(e) {
				t.Errorf("%s is in steps, but there is no ToSteps", textOf(e))
			}
			continue
		}
		if !impl.IsSteps(got) || impl.IsSteps(e) != sameTree(e, got) {
			t.Errorf("ToSteps of %s = %s, and IsSteps = %v and %v", textOf(e), textOf(got), impl.IsSteps(e), impl.IsSteps(got))
		}
		again, ok := impl.ToSteps(got)
		wantSameResult(t, "ToSteps of the steps "+textOf(got), again, ok, got, true)
		checkStepNames(t, e, got)
		if !sameTree(e, got) {
			count["changed"]++
		}
	}
	wantCounts(t, count, map[string]int{"none": 1000, "changed": 3000})
}

// checkStepNames reports names of steps that stand in e, or are bound more than once.
func checkStepNames(t *testing.T, e, steps impl.Expr) {
	t.Helper()
	before, bound := namesIn(e, impl.OpVar, impl.OpLet), map[int]bool{}
	for _, path := range pathsByRule(steps) {
		x, _ := partByRule(steps, path)
		if x.Op != impl.OpLet || before[x.N] {
			continue
		}
		if bound[x.N] || timesFree(x.Kids[1], x.N) != 1 {
			t.Errorf("in %s, from %s, a step has the name %d", textOf(steps), textOf(e), x.N)
		}
		bound[x.N] = true
	}
	for v := range freeIn(steps) {
		if !freeIn(e)[v] {
			t.Errorf("in %s, %d is free, but not in %s", textOf(steps), v, textOf(e))
		}
	}
}
