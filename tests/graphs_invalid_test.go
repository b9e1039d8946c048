package tests

import (
	"slices"
	"strconv"
	"testing"

	"loop.example/apimigrator/impl"
)

// wantNoGraph is for a library that is not valid.
func wantNoGraph(t *testing.T, what string, lib []impl.Def) {
	t.Helper()
	for name := -1; name <= impl.MaxFuns; name++ {
		wantInts(t, "CallersOf with "+what, impl.CallersOf(lib, name))
		if n, ok := impl.LevelOfFun(lib, name); ok || n != 0 {
			t.Errorf("LevelOfFun with %s = %d, %v", what, n, ok)
		}
	}
	order, ok := impl.OrderOfFuns(lib)
	if ok || len(order) != 0 {
		t.Errorf("OrderOfFuns with %s = %v, %v", what, order, ok)
	}
	circle, ok := impl.CircleOf(lib)
	if ok || len(circle) != 0 {
		t.Errorf("CircleOf with %s = %v, %v", what, circle, ok)
	}
	for _, clients := range [][]impl.Expr{nil, {num(1)}, {num(1), call(0)}, {call(0, num(1))}, {call(1)}, {call(2)}, {call(7)}} {
		wantNotTrimmed(t, what, lib, clients)
	}
}

func TestGraphsOfInvalidLibraries(t *testing.T) {
	for what, lib := range allInvalidLibraries() {
		wantNoGraph(t, what, lib)
	}
	// What is at fault is neither called, nor in a circle, nor does it call anything.
	good := libraryOf(t, "A0=1\nB0=A()\nC0=D()\nD0=C()\n")
	checkGraph(t, good, map[string]int{})
	for _, d := range []impl.Def{def(4, 0, num(100)), def(4, 0, variable(0)), def(4, 0, call(5)), def(4, 0, call(0, num(1))), def(8, 0, num(1)), def(-1, 0, num(1)), def(3, 0, num(1)), def(4, 4, num(1)), def(4, -1, num(1)), {Name: 4}} {
		wantNoGraph(t, "a library with "+textOfDefs([]impl.Def{d}), append(clonedLibrary(good), d))
	}
	wantNoGraph(t, "a library that is not in order", []impl.Def{good[1], good[0]})
	wantNoGraph(t, "nine functions", append(eightFuns(), def(7, 1, num(1))))
	// Trimmed, these would be valid.
	wantNoGraph(t, "a function that is not used", []impl.Def{def(0, 0, num(1)), def(1, 0, num(1)), def(1, 0, call(7))})
}

func TestGraphsWithoutFunctions(t *testing.T) {
	for _, lib := range [][]impl.Def{nil, {}} {
		wantOrder(t, lib, "", "")
		wantCircle(t, lib, "")
		for name := -1; name <= impl.MaxFuns; name++ {
			wantInts(t, "CallersOf without functions", impl.CallersOf(lib, name))
		}
		for _, clients := range [][]impl.Expr{nil, {}, {num(1)}, {num(1), out(num(2))}} {
			checkTrimmed(t, lib, clients, map[string]int{})
		}
		for _, e := range []impl.Expr{call(0), variable(0), {}} {
			wantNotTrimmed(t, "no functions", lib, []impl.Expr{e})
		}
	}
}

// One client that is none is at fault, wherever it is.
func TestTrimLibraryWithInvalidClients(t *testing.T) {
	lib := libraryOf(t, "A1=a\nB0~1\nC0=A(B())\n")
	exprs := invalidExprs()
	for i, e := range endlessExprs() {
		exprs["endless "+strconv.Itoa(i)] = e
	}
	for _, text := range []string{"a", "(1+h)", "{a=b;a}", "{a=1;b}", "A(a)", "A()", "A(1,2)", "B(1)", "D()", "H()", "(A(1)+D())", "A(A())", "[1?2:B(1)]", "{a=1;{A(a);C(a)}}"} {
		exprs[text] = exprOf(t, text)
	}
	exprs["81 nodes"] = closedWide(81)
	exprs["a depth of 15"] = chain(15)
	for what, e := range exprs {
		for _, clients := range [][]impl.Expr{{e}, {e, num(1)}, {num(1), e}, {call(2), e}, {e, call(2)}, {num(1), num(2), e, num(3)}, slices.Repeat([]impl.Expr{e}, 10), {out(e)}, {call(0, e)}} {
			wantNotTrimmed(t, what, lib, clients)
		}
	}
	// At the limits, these are clients.
	for _, e := range []impl.Expr{closedWide(80), chain(14)} {
		checkTrimmed(t, lib, []impl.Expr{e, call(1)}, map[string]int{})
	}
}

// argumentsWithMore have further elements behind their lengths.
func argumentsWithMore(t *testing.T, functions string, texts ...string) ([]impl.Def, []impl.Expr) {
	t.Helper()
	lib := append(libraryOf(t, functions), oldDef(6, 0, num(6)), oldDef(7, 0, num(7)))
	clients := append(clientsOf(t, texts...), num(5), num(6))
	return lib[:len(lib)-2], clients[:len(clients)-2]
}

func TestTrimmedLibrariesAreNewMemory(t *testing.T) {
	const functions = "A2=(a+(b+1))\nB1={c=A(a,!a);(c+c)}\nD0=!(B(1)+B(2))\nE0~(1+2)\n"
	for _, client := range []string{"1", "A(1,2)", "{a=B(1);!(a+B(2))}", "(D()+3)", "[E()?D():{1;2}]"} {
		lib, clients := argumentsWithMore(t, functions, client)
		got, ok := impl.TrimLibrary(lib, clients)
		want := clonedLibrary(got)
		if !ok || textOfLibrary(lib) != functions || textOf(clients[0]) != client {
			t.Fatalf("TrimLibrary is %v, and changes its arguments to %s and %s", ok, textOfLibrary(lib), textOf(clients[0]))
		}
		if textOfLibrary(lib[:6][4:]) != "G0~6\nH0~7\n" || textOf(clients[:3][1]) != "5" || textOf(clients[:3][2]) != "6" {
			t.Fatalf("TrimLibrary changes memory beyond the lengths to %v and %v", lib[:6], clients[:3])
		}
		for i, d := range lib[:6] {
			overwrite(d.Body)
			lib[:6][i] = impl.Def{Name: 77}
		}
		overwrite(clients[0])
		if !sameDefs(got, want) {
			t.Errorf("with changed arguments, TrimLibrary for %s became %v", client, got)
		}
		checkOwnBodies(t, got)
	}
	body := add(num(1), out(num(2)))
	got, _ := impl.TrimLibrary([]impl.Def{def(0, 0, body), def(1, 0, body), def(2, 0, body)}, []impl.Expr{call(0), call(2)})
	wantLibrary(t, "TrimLibrary of shared Bodies", got, true, "A0=(1+!2)\nC0=(1+!2)\n")
	checkOwnBodies(t, got)
}

// What one call returns is nothing that another one returns.
func TestGraphsStay(t *testing.T) {
	const functions = "A0=1\nB0=(A()+C())\nC0=D()\nD0=(A()+B())\nE0=F()\nF0=7\n"
	lib, clients := argumentsWithMore(t, functions, "E()", "(A()+F())")
	straight := libraryOf(t, "A0=C()\nB0=1\nC0=2\n")
	for range 2 {
		callers, unused := impl.CallersOf(lib, 0), impl.UnusedFuns(lib, clients)
		circle, ok := impl.CircleOf(lib)
		order, ordered := impl.OrderOfFuns(straight)
		level, leveled := impl.LevelOfFun(lib, 4)
		if !ok || !ordered || !leveled || level != 1 {
			t.Errorf("CircleOf is %v, OrderOfFuns %v, and LevelOfFun %d, %v", ok, ordered, level, leveled)
		}
		lists := map[string][]int{"CallersOf": callers, "UnusedFuns": unused, "CircleOf": circle, "OrderOfFuns": order}
		want := map[string][]int{"CallersOf": {1, 3}, "UnusedFuns": {1, 2, 3}, "CircleOf": {1, 2, 3}, "OrderOfFuns": {1, 2, 0}}
		for what, list := range lists {
			wantInts(t, what, list, want[what]...)
			overwriteInts(list)
			delete(lists, what)
		}
	}
	if textOfLibrary(lib) != functions || textOf(clients[0]) != "E()" || textOf(clients[1]) != "(A()+F())" || textOfLibrary(lib[:8][6:]) != "G0~6\nH0~7\n" || textOf(clients[:3][2]) != "5" {
		t.Errorf("the arguments became %v and %v", lib[:8], clients[:3])
	}
}
