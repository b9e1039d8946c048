package tests

import (
	"math"
	"math/rand"
	"strconv"
	"testing"

	"loop.example/apimigrator/impl"
)

func TestBoundsOfCalls(t *testing.T) {
	lib := libraryOf(t, "A0=1\nB0=(A()+A())\nC1=[a?B():A()]\nD2={a=B();C(a)}\nE1~!A()\nF0=F()\nG0=F()\nH3=[A()?[a?B():1]:{B();B()}]\n")
	cases := map[string]int{
		"0": 0, "h": 0, "!1": 0, "[1?2:{a=b;(a<c)}]": 0,
		"A()": 1, "B()": 3, "C(1)": 4, "D(1,2)": 8, "E(1)": 2, "H(1,2,3)": 8,
		"!A()": 1, "(A()+A())": 2, "(A()<B())": 4, "{A();B()}": 4, "{a=A();B()}": 4, "{a=B();a}": 3, "{a=1;A()}": 1,
		"C(A())": 5, "C(C(C(0)))": 12, "D(A(),B())": 12, "H(A(),B(),C(1))": 16, "E(!E(1))": 4,
		"[A()?B():C(1)]": 5, "[A()?C(1):B()]": 5, "[B()?1:2]": 3, "[1?A():B()]": 3, "[0?B():A()]": 3, "[1?2:B()]": 3, "[0?B():1]": 3,
		"[[A()?B():1]?1:A()]": 5, "[1?[2?A():B()]:C(1)]": 4, "[1?[2?A():D(1,2)]:C(1)]": 8, "([1?A():B()]+[0?B():A()])": 6,
	}
	for text, want := range cases {
		e := exprOf(t, text)
		for most := range impl.MaxFuel + 1 {
			if most < want {
				wantNoBound(t, text, lib, e, most)
			} else {
				wantBound(t, lib, e, most, want)
			}
		}
	}
	for _, text := range []string{"F()", "G()", "!F()", "(A()+F())", "{G();A()}", "[1?A():F()]", "[G()?1:2]", "[0?F():1]", "C(F())", "{a=F();1}"} {
		for _, most := range []int{0, 1, 100, 200} {
			wantNoBound(t, text, lib, exprOf(t, text), most)
		}
	}
}

// sumOf adds up the same expression many times.
func sumOf(e impl.Expr, many int) impl.Expr {
	if many == 1 {
		return e
	}
	return add(sumOf(e, many/2), sumOf(e, many-many/2))
}

func TestBoundsAtTheLimits(t *testing.T) {
	lib := []impl.Def{
		def(0, 0, num(1)),
		def(1, 0, sumOf(call(0), 9)),
		def(2, 0, add(sumOf(call(1), 9), sumOf(call(0), 9))),
	}
	wantBound(t, lib, call(1), 10, 10)
	wantBound(t, lib, call(2), 100, 100)
	full := add(call(2), call(2))
	wantBound(t, lib, full, 200, 200)
	wantNoBound(t, "200 calls", lib, full, 199)
	wantNoBound(t, "201 calls", lib, add(full, call(0)), 200)
	wantBound(t, lib, add(num(1), choice(full, num(1), num(2))), 200, 200)
	wantNoBound(t, "201 calls", lib, choice(full, num(1), call(0)), 200)
	wantNoBound(t, "201 calls", lib, choice(call(0), full, num(1)), 200)
	// Too many in one branch are not made good by the other one.
	wantNoBound(t, "300 calls", lib, choice(num(1), num(1), add(full, call(2))), 200)
	wantNoBound(t, "300 calls", lib, choice(num(1), add(full, call(2)), num(1)), 200)
	for _, most := range []int{-1, -2, -200, 201, 202, 1000, math.MaxInt, math.MinInt} {
		wantNoBound(t, "such a limit", lib, num(1), most)
		wantNoBound(t, "such a limit", lib, call(0), most)
		wantNoBound(t, "such a limit", nil, num(1), most)
	}
	wantBound(t, nil, num(1), 0, 0)
	wantBound(t, lib, num(1), 0, 0)
}

// branches has as many calls of f, each in a branch of its own.
func branches(f, many int) impl.Expr {
	if many == 1 {
		return call(f)
	}
	return choice(num(1), branches(f, many/2), branches(f, many-many/2))
}

// Each function calls the next one many times: who goes into the Bodies for
// each call does not come to an end.
func TestBoundsOfManyCalls(t *testing.T) {
	var few, many []impl.Def
	for f := range impl.MaxFuns - 1 {
		few = append(few, def(f, 0, branches(f+1, 27)))
		many = append(many, def(f, 0, sumOf(call(f+1), 40)))
	}
	few, many = append(few, def(7, 0, num(1))), append(many, def(7, 0, num(1)))
	for f := range impl.MaxFuns {
		wantBound(t, few, call(f), 200, impl.MaxFuns-f)
		wantBound(t, few, branches(f, 27), impl.MaxFuns-f, impl.MaxFuns-f)
		wantNoBound(t, "one call more", few, branches(f, 27), impl.MaxFuns-f-1)
		if f < 6 {
			wantNoBound(t, "40 calls of 40 calls", many, call(f), 200)
		}
	}
	wantBound(t, many, call(6), 200, 41)
	wantBound(t, many, sumOf(call(6), 4), 200, 164)
	wantNoBound(t, "5 times 41 calls", many, sumOf(call(6), 5), 200)
}

func TestBoundsOfRandomExprs(t *testing.T) {
	r := rand.New(rand.NewSource(10))
	compared, loud := 0, 0
	for range 20000 {
		lib, e := calmCase(r)
		if !endingExprByRule(lib, e) {
			wantNoBound(t, textOf(e)+" with "+textOfLibrary(lib), lib, e, impl.MaxFuel)
			continue
		}
		want := boundByRule(lib, e)
		if want > impl.MaxFuel {
			wantNoBound(t, textOf(e)+" with "+textOfLibrary(lib), lib, e, impl.MaxFuel)
			continue
		}
		wantBound(t, lib, e, impl.MaxFuel, want)
		wantBound(t, lib, e, want, want)
		wantNoBound(t, textOf(e), lib, e, want-1)
		x := impl.EvalOpen(lib, e, randomValues(r), want)
		if x.Code != impl.EvalDone || len(x.Calls) > want {
			t.Errorf("with the bound %d, %s with %s evaluates to %v", want, textOf(e), textOfLibrary(lib), x)
		}
		if want > 0 {
			compared++
		}
		if len(x.Out) > 0 {
			loud++
		}
		if t.Failed() {
			return
		}
	}
	if compared < 3000 || loud < 1000 {
		t.Errorf("only %d bounds compared, %d of them with something put out", compared, loud)
	}
}

// Without branches, as many calls are made as the bound says.
func TestBoundsAreReached(t *testing.T) {
	lib := libraryOf(t, "A0=1\nB1=(A()+{a=A();a})\nC2=B(B(b))\nD0=!C(A(),!B(1))\n")
	for _, text := range []string{"1", "A()", "B(A())", "C(1,2)", "(D()+D())", "{a=D();{B(a);!C(a,B(a))}}"} {
		e := exprOf(t, text)
		n, ok := impl.CallBound(lib, e, impl.MaxFuel)
		x := impl.EvalOpen(lib, e, nil, impl.MaxFuel)
		if !ok || x.Code != impl.EvalDone || len(x.Calls) != n {
			t.Errorf("CallBound of %s = %d, %v, and it makes %d calls", text, n, ok, len(x.Calls))
		}
		if n > 0 && impl.EvalOpen(lib, e, nil, n-1).Code != impl.EvalFuel {
			t.Errorf("%s needs fewer than %d calls", text, n)
		}
	}
}

func TestBoundsOfInvalidArguments(t *testing.T) {
	for name, lib := range invalidLibraries() {
		for _, e := range []impl.Expr{num(1), variable(0), call(0), call(0, num(1)), call(1)} {
			wantNoBound(t, name, lib, e, 200)
		}
	}
	lib := libraryOf(t, purityLibrary)
	exprs := invalidExprs()
	for i, e := range endlessExprs() {
		exprs["endless "+strconv.Itoa(i)] = e
	}
	for name, e := range exprs {
		for _, x := range []impl.Expr{e, add(num(1), e), choice(num(1), num(2), e), let(0, num(1), e), call(1, e)} {
			wantNoBound(t, name, lib, x, 200)
		}
	}
	for _, text := range []string{"A()", "A(1)", "A(1,2,3)", "B()", "G(1)", "H()", "(1+B(1,2))", "{a=G(1);2}", "[1?2:A(1)]", "B(G(1))"} {
		wantNoBound(t, text, lib, exprOf(t, text), 200)
	}
	for _, text := range []string{"A()", "H()", "[1?2:B()]"} {
		wantNoBound(t, text, nil, exprOf(t, text), 200)
	}
}
