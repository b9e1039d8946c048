package tests

import (
	"strconv"
	"testing"

	"loop.example/apimigrator/impl"
)

// inlining are the functions of the chapter that change an expression, for one
// of the functions of a library.
func inlining(lib []impl.Def, name int) map[string]func(e impl.Expr) (impl.Expr, bool) {
	return map[string]func(e impl.Expr) (impl.Expr, bool){
		"InlineCall": func(e impl.Expr) (impl.Expr, bool) { return impl.InlineCall(lib, e) },
		"InlineFun":  func(e impl.Expr) (impl.Expr, bool) { return impl.InlineFun(lib, e, name) },
		"InlineTidy": func(e impl.Expr) (impl.Expr, bool) { return impl.InlineTidy(lib, e) },
		"InlineOld": func(e impl.Expr) (impl.Expr, bool) {
			y, times, ok := impl.InlineOld(lib, e)
			// Without a result, it is done 0 times; otherwise there is something wrong.
			return y, ok || times != 0
		},
	}
}

func wantNotInlined(t *testing.T, what string, lib []impl.Def, e impl.Expr) {
	t.Helper()
	for name := range impl.MaxFuns {
		for inline, of := range inlining(lib, name) {
			got, ok := of(e)
			wantNoExpr(t, inline+" of "+what, got, ok)
		}
	}
}

func TestInlineInvalidExprs(t *testing.T) {
	lib := libraryOf(t, inlineLibrary)
	exprs := invalidExprs()
	for i, e := range endlessExprs() {
		exprs["endless "+strconv.Itoa(i)] = e
	}
	for what, e := range exprs {
		for _, x := range []impl.Expr{e, out(e), call(1, e), call(2, e), call(0, num(1), e), call(3, e, num(1)), add(call(1, num(1)), e), let(0, e, call(1, num(1)))} {
			wantNotInlined(t, what, lib, x)
		}
	}
	wantNotInlined(t, "the zero value", lib, impl.Expr{})
	for f := -1; f <= impl.MaxFuns; f++ {
		wantNotInlined(t, "a call without Kids", nil, call(f))
		wantNotInlined(t, "a call with 4 arguments", lib, call(f, num(1), num(2), num(3), num(4)))
	}
}

func TestInlineWithInvalidLibraries(t *testing.T) {
	for what, lib := range invalidLibraries() {
		for _, e := range []impl.Expr{num(1), call(0), call(0, num(1)), call(1), call(0, num(1), num(2), num(3)), call(1, num(1), num(2), num(3)), add(call(0), call(1))} {
			wantNotInlined(t, textOf(e)+" with "+what, lib, e)
		}
		for name := -1; name <= impl.MaxFuns; name++ {
			target, ok := impl.WrapperTarget(lib, name)
			if ok || target != 0 || impl.IsWrapper(lib, name) {
				t.Errorf("with %s, %d is a wrapper of %d", what, name, target)
			}
		}
	}
	// Without what makes them invalid, they have a wrapper.
	for _, lib := range [][]impl.Def{
		{def(0, 1, call(1, variable(0))), def(1, 1, variable(0)), def(8, 0, num(1))},
		{def(1, 1, variable(0)), def(0, 1, call(1, variable(0)))},
		{def(0, 1, call(1, variable(0))), def(1, 1, variable(1))},
		{def(0, 1, call(1, variable(0))), def(1, 2, variable(0))},
		{def(0, 1, call(1, variable(1))), def(1, 1, variable(0))},
		{def(0, 1, call(1, num(100))), def(1, 1, variable(0))},
		{def(0, 1, call(1, num(1)))},
		{def(0, 1, call(8, num(1)))},
		{def(0, 1, call(-1, num(1)))},
	} {
		target, ok := impl.WrapperTarget(lib, 0)
		if ok || target != 0 || impl.IsWrapper(lib, 0) {
			t.Errorf("with %s, A is a wrapper of %d", textOfLibrary(lib), target)
		}
		wantNotInlined(t, "A(1) with an invalid library", lib, call(0, num(1)))
		wantNotInlined(t, "1 with an invalid library", lib, num(1))
	}
}

func TestInlineExprsThatDoNotFit(t *testing.T) {
	lib := libraryOf(t, inlineLibrary)
	for _, text := range []string{"B()", "B(1,2)", "A(1)", "G(1)", "E()", "C(B())", "(B(1)+B())", "{B(1);H(1,2)}", "[1?B(1):A(1)]", "[0?G(1):2]", "{a=G(1);2}", "B(G(1))"} {
		wantNotInlined(t, text, lib, exprOf(t, text))
	}
	lib = libraryOf(t, "A1~a\nC0=1\n")
	for _, text := range []string{"B()", "B(1)", "(A(1)+D())", "A(B(1))", "[1?A(2):H()]", "{b=A(1);B(b)}"} {
		wantNotInlined(t, text, lib, exprOf(t, text))
	}
	for _, text := range []string{"A(1)", "H()"} {
		wantNotInlined(t, text, nil, exprOf(t, text))
	}
	y, times, ok := impl.InlineOld(nil, exprOf(t, "(1+2)"))
	wantExpr(t, "InlineOld without functions", y, ok, "(1+2)")
	if times != 0 {
		t.Errorf("InlineOld without functions is done %d times", times)
	}
	y, ok = impl.InlineTidy(nil, exprOf(t, "(1+2)"))
	wantExpr(t, "InlineTidy without functions", y, ok, "3")
}

func TestInlinedExprsAreNewMemory(t *testing.T) {
	texts := []string{
		"B((a+b))", "A((a+b),!c)", "D((a+b),(a+b))", "G()", "(G()+G())", "H((a+b),(b+c),!a)", "B(B((a+b)))", "(B(1)+B((a+b)))", "A((1+a),(2+b))", "(a+!b)", "7",
		"C((a+!b))", "{a=B(!b);C((a+a))}", "F(!a,(b+c))",
	}
	for _, text := range texts {
		for name := range impl.MaxFuns {
			for inline := range inlining(nil, 0) {
				lib := libraryOf(t, inlineLibrary)
				e := exprOf(t, text)
				got, ok := inlining(lib, name)[inline](e)
				want := cloned(got)
				if textOf(e) != text || textOfLibrary(lib) != inlineLibrary {
					t.Fatalf("%s of %s changes its arguments to %s and %s", inline, text, textOf(e), textOfLibrary(lib))
				}
				if !ok {
					continue
				}
				overwrite(e)
				for i := range lib {
					overwrite(lib[i].Body)
					lib[i] = impl.Def{}
				}
				if !sameTree(got, want) {
					t.Errorf("with changed arguments, %s of %s became %v", inline, text, got)
				}
				checkOwnMemory(t, got)
			}
		}
	}
}
