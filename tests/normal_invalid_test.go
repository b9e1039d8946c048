package tests

import (
	"strconv"
	"testing"

	"loop.example/apimigrator/impl"
)

// wantNoForms is for an expression that is not valid.
func wantNoForms(t *testing.T, what string, e impl.Expr) {
	t.Helper()
	got, ok := impl.NormalNames(e)
	wantNoExpr(t, "NormalNames of "+what, got, ok)
	got, ok = impl.ToSteps(e)
	wantNoExpr(t, "ToSteps of "+what, got, ok)
	if impl.IsSteps(e) {
		t.Errorf("IsSteps of %s holds", what)
	}
	wantNotSwapped(t, what, nil, e)
	wantNotSwapped(t, what, []impl.Def{def(0, 0, num(1)), def(1, 1, variable(0)), def(7, 3, num(1))}, e)
}

// wantNotSwapped is for an expression that does not fit lib, or if lib is not valid.
func wantNotSwapped(t *testing.T, what string, lib []impl.Def, e impl.Expr) {
	t.Helper()
	one := num(1)
	for _, x := range []impl.Expr{e, let(0, e, let(1, one, one)), let(0, one, let(1, e, one)), let(0, one, let(1, one, e))} {
		got, ok := impl.SwapLets(lib, x)
		wantNoExpr(t, "SwapLets with "+what, got, ok)
	}
	if impl.CommutesWith(lib, e, one) || impl.CommutesWith(lib, one, e) || impl.CommutesWith(lib, e, e) {
		t.Errorf("CommutesWith holds for %s", what)
	}
}

func TestNormalFormsOfInvalidExprs(t *testing.T) {
	exprs := invalidExprs()
	for i, e := range endlessExprs() {
		exprs["endless "+strconv.Itoa(i)] = e
	}
	for what, e := range exprs {
		for _, x := range []impl.Expr{e, out(e), seq(e, num(1)), seq(num(1), e), let(0, e, num(1)), let(0, num(1), e), choice(num(0), e, num(1)), call(7, num(1), e, num(2)), let(0, num(1), let(1, num(2), e))} {
			wantNoForms(t, what, x)
		}
	}
	wantNoForms(t, "81 nodes", wide(81))
	wantNoForms(t, "81 nodes in steps", seqs(81))
	wantNoForms(t, "a depth of 15", chain(15))
	wantNoForms(t, "a depth of 15 in steps", behind(14, num(1)))
	// These would be too large before, but not behind it.
	wantNoForms(t, "a depth of 15 that gets less", let(0, num(1), let(1, chain(13), num(1))))
	wantNoForms(t, "bindings of a depth of 15", let(0, num(1), let(0, num(2), chain(13))))
	// An operand that is not valid, although it looks like an atom.
	for _, x := range []impl.Expr{num(100), num(-1), variable(8), variable(-1)} {
		wantNoForms(t, textOf(num(x.N)), x)
		wantNoForms(t, textOf(num(x.N)), let(0, x, let(1, num(1), num(2))))
	}
}

func TestSwapLetsWithInvalidLibraries(t *testing.T) {
	for what, lib := range allInvalidLibraries() {
		for _, e := range []impl.Expr{num(1), variable(0), out(num(1)), call(0), call(0, num(1)), call(1, num(1)), call(2), call(7), let(0, num(1), let(1, num(2), num(3)))} {
			wantNotSwapped(t, textOf(e)+" with "+what, lib, e)
		}
	}
	// Without what is at fault, there would be a result.
	good := []impl.Def{def(0, 1, variable(0)), oldDef(1, 1, call(0, variable(0)))}
	e := exprOf(t, "{a=A(1);{b=B(2);(a+b)}}")
	got, ok := impl.SwapLets(good, e)
	wantExpr(t, "SwapLets", got, ok, "{b=B(2);{a=A(1);(a+b)}}")
	for _, d := range []impl.Def{def(2, 0, num(100)), def(2, 0, call(3)), def(2, 0, call(0)), def(1, 1, variable(0)), def(8, 0, num(1)), def(2, 4, num(1)), {Name: 2}, def(2, 1, variable(1))} {
		lib := append(clonedLibrary(good), d)
		wantNotSwapped(t, "a library with "+textOfDefs(lib), lib, e)
		wantNotSwapped(t, "a library with "+textOfDefs(lib), lib, num(1))
	}
	wantNotSwapped(t, "a library that is not in order", []impl.Def{good[1], good[0]}, e)
	// The other functions have no library.
	for _, text := range []string{"{a=1;{b=2;(a+b)}}", "{a=H();{b=H(1,2,3);a}}", "{a=A(1);[a?B():C(a,a)]}"} {
		wantNormal(t, nil, "NormalNames", [][2]string{{text, "="}})
		wantNormal(t, nil, "ToSteps", [][2]string{{text, "="}})
	}
}

func TestSwapLetsOfCallsThatDoNotFit(t *testing.T) {
	lib := libraryOf(t, "A1=a\nC0=1\n")
	for _, text := range []string{"A()", "A(1,2)", "C(1)", "B(1)", "H()", "(A(1)+B(2))", "A(A())", "[1?2:C(3)]", "[0?D():1]", "{a=B(1);2}", "{A();2}", "{a=C();A(a,a)}"} {
		wantNotSwapped(t, text, lib, exprOf(t, text))
	}
	for _, text := range []string{"A(1)", "C()", "(1+C())"} {
		wantNotSwapped(t, text+" without functions", nil, exprOf(t, text))
		if !impl.CommutesWith(lib, exprOf(t, text), num(1)) || !impl.CommutesWith(lib, out(num(1)), exprOf(t, text)) {
			t.Errorf("CommutesWith of %s is false", text)
		}
	}
}

func TestNormalFormsAreNewMemory(t *testing.T) {
	const functions = "A2=(a+b)\nB1~A(a,1)\nC1=!a\n"
	for _, text := range []string{
		"7", "(a+1)", "(!1+!2)", "A(!1,(2+3))", "{c=(1+2);{b=(3+4);(c+(b+5))}}", "{c=!(1+2);{b=A((3+4),5);((c+b)+(5+6))}}", "{b=(1+!2);{a=B((3+4));{c=5;!c}}}", "[!a?!(1+2):{h=!!b;(h+h)}]", "{a={b=1;(b+2)};{b={a=3;(a+4)};{1;(a+b)}}}",
	} {
		for name := range normalWays(nil) {
			lib, e := libraryOf(t, functions), exprOf(t, text)
			got, ok := normalWays(lib)[name].made(e)
			want := cloned(got)
			if textOf(e) != text || textOfLibrary(lib) != functions {
				t.Fatalf("%s of %s changes its arguments to %s and %s", name, text, textOf(e), textOfLibrary(lib))
			}
			if !ok {
				if name != "SwapLets" {
					t.Errorf("there is no %s of %s", name, text)
				}
				continue
			}
			overwrite(e)
			for i := range lib {
				overwrite(lib[i].Body)
				lib[i] = impl.Def{}
			}
			if !sameTree(got, want) {
				t.Errorf("with changed arguments, %s of %s became %s", name, text, textOf(want))
			}
			checkOwnMemory(t, got)
			growAll(got)
			if !sameTree(got, want) {
				t.Errorf("grown, %s of %s became %s", name, text, textOf(want))
			}
		}
	}
}

// The operands of an argument may share memory, but those of a result do not.
func TestNormalFormsOfSharedParts(t *testing.T) {
	x := let(2, num(1), add(variable(2), num(2)))
	const text = "{a={c=1;(c+2)};{b=[0?1:2];({c=1;(c+2)}+A({c=1;(c+2)},{c=1;(c+2)}))}}"
	e := let(0, x, let(1, choice(num(0), num(1), num(2)), add(x, call(0, x, x))))
	lib := libraryOf(t, "A2=(a+b)\n")
	for name, w := range normalWays(lib) {
		got, ok := w.made(e)
		want, wantOk := w.rule(e)
		wantSameResult(t, name+" of "+text, got, ok, want, wantOk)
		if textOf(e) != text || !ok {
			t.Fatalf("%s is %v, and %s became %s", name, ok, text, textOf(e))
		}
		checkOwnMemory(t, got)
	}
}

// What one call returns is nothing that another one returns.
func TestNormalFormsStay(t *testing.T) {
	const text = "{c=A(1);{b=!!2;(b+c)}}"
	lib, e := libraryOf(t, "A1=a\n"), exprOf(t, text)
	for range 2 {
		for name, want := range map[string]string{"NormalNames": "{a=A(1);{b=!!2;(b+a)}}", "ToSteps": "{c=A(1);{b={a=!2;!a};(b+c)}}", "SwapLets": "{b=!!2;{c=A(1);(b+c)}}"} {
			got, ok := normalWays(lib)[name].made(e)
			wantExpr(t, name, got, ok, want)
			overwrite(got)
		}
		if impl.IsSteps(e) || !impl.CommutesWith(lib, e.Kids[0], e.Kids[1]) {
			t.Error("IsSteps or CommutesWith is wrong")
		}
	}
	if textOf(e) != text || textOfLibrary(lib) != "A1=a\n" {
		t.Errorf("the arguments became %s and %s", textOf(e), textOfLibrary(lib))
	}
}
