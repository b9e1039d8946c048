package tests

import (
	"strconv"
	"testing"

	"loop.example/apimigrator/impl"
)

func TestChangedExprsOfInvalidExprs(t *testing.T) {
	exprs := invalidExprs()
	for i, e := range endlessExprs() {
		exprs["endless "+strconv.Itoa(i)] = e
	}
	for what, e := range exprs {
		for _, x := range []impl.Expr{e, out(e), seq(e, num(1)), seq(num(1), e), let(0, e, num(1)), let(0, num(1), e), choice(num(1), num(2), e), add(num(1), e)} {
			for name, w := range ways(libraryOf(t, purityLibrary)) {
				got, ok := w.change(x)
				wantNoExpr(t, name+" of "+what, got, ok)
			}
		}
	}
}

func TestChangedExprsOfInvalidLibraries(t *testing.T) {
	libs := invalidLibraries()
	for what, lib := range libs {
		for _, e := range []impl.Expr{num(1), let(0, num(1), variable(0)), seq(num(1), num(2)), call(0), call(0, num(1)), add(num(1), num(2))} {
			w := ways(lib)
			for _, name := range []string{"DropLets", "PutOnce", "TidyExpr"} {
				got, ok := w[name].change(e)
				wantNoExpr(t, name+" with "+what, got, ok)
			}
		}
		if got, ok := impl.TidyLibrary(lib); ok || len(got) != 0 {
			t.Errorf("TidyLibrary with %s = %v, %v", what, got, ok)
		}
	}
}

// FoldExpr and PutAtoms know no library; for the others, the calls have to fit, also those that would go.
func TestChangedExprsThatDoNotFit(t *testing.T) {
	w := ways(libraryOf(t, purityLibrary))
	for _, text := range []string{"A()", "A(1)", "A(1,2,3)", "B()", "G(1)", "H()", "{A(1);2}", "{a=G(1);2}", "[1?2:A(1)]", "[0?A(1):2]", "{1;B(G(1))}", "{a=1;E(a)}"} {
		for _, name := range []string{"DropLets", "PutOnce", "TidyExpr"} {
			got, ok := w[name].change(exprOf(t, text))
			wantNoExpr(t, name+" of "+text, got, ok)
		}
	}
	for _, text := range []string{"C()", "{C();1}", "{a=H(1,2,3);2}", "[1?2:D()]"} {
		for name, w := range ways(libraryOf(t, "A0=1\nB0=2\n")) {
			if name == "FoldExpr" || name == "PutAtoms" {
				continue
			}
			got, ok := w.change(exprOf(t, text))
			wantNoExpr(t, name+" of "+text, got, ok)
		}
	}
	for text, want := range map[string]string{"[1?2:A(1)]": "2", "{1;B(G(1))}": "B(G(1))", "A((1+2))": "A(3)"} {
		got, ok := impl.FoldExpr(exprOf(t, text))
		wantExpr(t, "FoldExpr of "+text, got, ok, want)
	}
	got, ok := impl.PutAtoms(exprOf(t, "{a=1;E(a)}"))
	wantExpr(t, "PutAtoms of a call that fits nowhere", got, ok, "E(1)")
}

func TestChangedExprsAtTheLimits(t *testing.T) {
	for _, c := range []struct{ e, want impl.Expr }{
		{wide(80), wide(80)},
		{chain(14), chain(14)},
		{deep(14), deep(14)},
		{let(0, out(num(1)), wide(77)), let(0, out(num(1)), wide(77))},
		{let(0, num(1), chain(13)), chain(13)},
		{seq(num(1), wide(78)), wide(78)},
		{let(0, variable(1), wide(78)), wide(78)},
	} {
		got, ok := impl.TidyExpr(nil, c.e)
		wantExpr(t, "TidyExpr of "+textOf(c.e), got, ok, textOf(c.want))
	}
	for _, e := range []impl.Expr{seq(num(1), wide(79)), let(0, num(1), wide(79)), let(0, num(1), chain(14)), seq(chain(14), num(1))} {
		for name, w := range ways(nil) {
			got, ok := w.change(e)
			wantNoExpr(t, name+" of "+textOf(e), got, ok)
		}
	}
	// Of the 77 nodes of wide(77), 39 are the variable 7; the others are sums.
	got, ok := impl.TidyExpr(nil, let(7, num(1), wide(77)))
	wantExpr(t, "TidyExpr of many sums", got, ok, "39")
	got, ok = impl.PutAtoms(let(7, variable(0), wide(78)))
	if !ok || impl.SizeOf(got) != 78 || impl.CountVar(got, 0) != 39 || impl.CountVar(got, 7) != 0 {
		t.Errorf("PutAtoms with 80 nodes = %v, %v", got, ok)
	}
}

func TestChangedExprsAreNewMemory(t *testing.T) {
	lib := libraryOf(t, purityLibrary)
	texts := []string{
		"(a+(b+!c))", "7", "{1;(a+b)}", "[1?(a+b):!c]", "[0?(a+b):!c]", "{a=1;A(a,(a+b))}", "{a=b;{b=!1;A(a,(b+c))}}", "{a=(b+!1);A((a+2),(b+c))}",
		"{a=!1;{!2;(a+(b+c))}}", "{a=A(1,b);A((a+a),(b+c))}", "{(a+b);(b+c)}", "{a=(b+c);(b+c)}", "!{!(a+b);(1+2)}",
	}
	for _, text := range texts {
		for name, w := range ways(lib) {
			e := exprOf(t, text)
			got, ok := w.change(e)
			want := cloned(got)
			if !ok || textOf(e) != text {
				t.Fatalf("%s is %v, and the argument is %s", name, ok, textOf(e))
			}
			overwrite(e)
			if !sameTree(got, want) {
				t.Errorf("with a changed argument, %s of %s became %s", name, text, textOf(got))
			}
			checkOwnMemory(t, got)
		}
	}
	if textOfLibrary(lib) != purityLibrary {
		t.Errorf("the library became %s", textOfLibrary(lib))
	}
}

func TestTidyLibrariesAreNewMemory(t *testing.T) {
	const text = "A2=(a+(b+1))\nB1={b=!a;{c=1;A(b,(c+c))}}\nC0~{(1+2);!(B(1)+B(2))}\n"
	lib := libraryOf(t, text)
	got, ok := impl.TidyLibrary(lib)
	want := clonedLibrary(got)
	if !ok || textOfLibrary(lib) != text {
		t.Fatalf("TidyLibrary is %v, and the argument is %s", ok, textOfLibrary(lib))
	}
	for i := range lib {
		overwrite(lib[i].Body)
		lib[i] = impl.Def{}
	}
	if !sameDefs(got, want) {
		t.Errorf("with a changed argument, TidyLibrary became %v", got)
	}
	var bodies []impl.Expr
	for _, d := range got {
		bodies = append(bodies, d.Body)
	}
	checkOwnMemory(t, call(0, bodies...))
}
