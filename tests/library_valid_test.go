package tests

import (
	"runtime/debug"
	"testing"

	"loop.example/apimigrator/impl"
)

func TestValidLibraries(t *testing.T) {
	one := num(1)
	valid := map[string][]impl.Def{
		"none":                        nil,
		"empty":                       {},
		"the first function":          {def(0, 0, one)},
		"the last function":           {def(7, 0, one)},
		"8 functions":                 eightFuns(),
		"all arguments":               {def(0, 3, call(0, variable(0), variable(1), variable(2)))},
		"no argument used":            {def(0, 3, one)},
		"call of itself":              {def(0, 1, call(0, add(variable(0), one)))},
		"call of itself in itself":    {def(4, 1, call(4, call(4, variable(0))))},
		"calls in a circle":           {def(0, 1, call(1, variable(0))), def(1, 1, call(2, variable(0))), def(2, 1, call(0, variable(0)))},
		"call of an earlier one":      {def(0, 2, variable(1)), def(5, 0, call(0, one, one))},
		"call of a later one":         {def(0, 0, call(5, one, one)), def(5, 2, variable(1))},
		"call of one out of use":      {oldDef(0, 0, one), def(1, 0, call(0))},
		"all out of use":              {oldDef(0, 0, one), oldDef(1, 0, call(0)), oldDef(2, 1, variable(0))},
		"variables of lets":           {def(0, 0, let(7, one, let(0, variable(7), add(variable(0), variable(7)))))},
		"let of an argument":          {def(0, 1, let(0, variable(0), variable(0)))},
		"a Body at the limit of size": {def(0, 0, let(7, one, wide(impl.MaxNodes-2)))},
		"a Body at the limit of depth": {def(0, 0, chain(impl.MaxDepth)),
			def(3, 0, one)},
	}
	for name, lib := range valid {
		if !impl.LibraryValid(lib) {
			t.Errorf("%s: LibraryValid is false", name)
		}
		for i, d := range lib {
			if !impl.CallsFit(lib, d.Body) {
				t.Errorf("%s: CallsFit is false for the Body %d", name, i)
			}
		}
	}
}

func TestInvalidLibraries(t *testing.T) {
	clients := []impl.Expr{num(1), call(0), call(0, num(1)), call(0, num(1), num(2), num(3))}
	for name, lib := range invalidLibraries() {
		if impl.LibraryValid(lib) {
			t.Errorf("%s: LibraryValid holds", name)
		}
		if text := impl.FormatLibrary(lib); text != "" {
			t.Errorf("%s: FormatLibrary = %q", name, text)
		}
		for _, e := range clients {
			if impl.ClientValid(lib, e) {
				t.Errorf("%s: ClientValid holds for %q", name, textOf(e))
			}
			wantInts(t, name+": CallsFrom", impl.CallsFrom(lib, e))
			wantInts(t, name+": OldCalls", impl.OldCalls(lib, e))
		}
	}
}

func TestLibrariesOfLimits(t *testing.T) {
	for name := -2; name <= 10; name++ {
		for arity := -2; arity <= 6; arity++ {
			want := 0 <= name && name <= 7 && 0 <= arity && arity <= 3
			if got := impl.LibraryValid([]impl.Def{def(name, arity, num(1))}); got != want {
				t.Errorf("LibraryValid of name %d and arity %d = %v", name, arity, got)
			}
			for v := range impl.MaxVars {
				if got := impl.LibraryValid([]impl.Def{def(name, arity, variable(v))}); got != (want && v < arity) {
					t.Errorf("LibraryValid of name %d, arity %d and the variable %d = %v", name, arity, v, got)
				}
			}
		}
	}
	large := []impl.Def{def(0, 0, let(7, num(1), wide(impl.MaxNodes-1)))}
	deep := []impl.Def{def(0, 0, chain(impl.MaxDepth+1))}
	if impl.LibraryValid(large) || impl.LibraryValid(deep) {
		t.Error("a library with a Body behind the limits is valid")
	}
}

// The order of two functions alone decides, whatever they are.
func TestOrdersOfFunctions(t *testing.T) {
	for f := range impl.MaxFuns {
		for g := range impl.MaxFuns {
			lib := []impl.Def{def(f, 0, num(1)), oldDef(g, 1, variable(0))}
			if got := impl.LibraryValid(lib); got != (f < g) {
				t.Errorf("LibraryValid of the functions %d and %d = %v", f, g, got)
			}
		}
	}
}

func TestCallsFit(t *testing.T) {
	const text = "A0=1\nB1~a\nC2=(a+b)\nH3=A()\n"
	cases := []struct {
		text string
		want bool
	}{
		{"1", true},
		{"a", true},
		{"h", true},
		{"A()", true},
		{"B(1)", true},
		{"C(1,2)", true},
		{"H(1,2,3)", true},
		{"H(A(),B(h),C(A()))", false},
		{"H(A(),B(h),C(A(),A()))", true},
		{"A(1)", false},
		{"A(1,2,3)", false},
		{"B()", false},
		{"B(1,2)", false},
		{"C(1)", false},
		{"C(1,2,3)", false},
		{"H(1,2)", false},
		{"H()", false},
		{"D()", false},
		{"G(1,2,3)", false},
		{"(A()+D())", false},
		{"(D()+A())", false},
		{"[1?A():B()]", false},
		{"[1?A():B(2)]", true},
		{"{a=A();B(a)}", true},
		{"{a=A();B()}", false},
		{"{a=A(1);B(a)}", false},
		{"{1;!!(2<E())}", false},
		{"B(B(B()))", false},
		{"B(B(B(A())))", true},
	}
	lib := libraryOf(t, text)
	for _, c := range cases {
		e := exprOf(t, c.text)
		if got := impl.CallsFit(lib, e); got != c.want {
			t.Errorf("CallsFit(%q) = %v", c.text, got)
		}
		if got := impl.CallsFit(nil, e); got != (c.want && len(impl.CallsOf(e)) == 0) {
			t.Errorf("CallsFit(%q) without functions = %v", c.text, got)
		}
	}
}

// Of two functions with the same name, the first one counts, and nothing else of a library does.
func TestCallsFitInInvalidLibraries(t *testing.T) {
	lib := []impl.Def{
		def(9, 0, num(1)),
		def(5, 1, variable(7)),
		oldDef(1, 2, call(3)),
		def(5, 0, num(1)),
		{Name: 1},
		def(1, 2, num(1)),
		def(0, 4, impl.Expr{Op: 77}),
		def(0, 3, num(1)),
		def(2, -1, num(1)),
		def(3, 0, endlessExprs()[0]),
		def(-1, 0, num(1)),
		def(4, 0, num(1)),
	}
	fits := map[string]bool{
		"F(1)": true, "F()": false, "F(1,2)": false,
		"B(1,2)": true, "B()": false, "B(1)": false,
		"A(1,2,3)": false, "A()": false,
		"C()": false, "C(1)": false,
		"D()": true, "E()": true, "G()": false, "H()": false, "7": true, "c": true,
	}
	for text, want := range fits {
		if got := impl.CallsFit(lib, exprOf(t, text)); got != want {
			t.Errorf("CallsFit(%q) = %v", text, got)
		}
	}
	if impl.CallsFit(lib, call(9)) || impl.CallsFit(lib, call(-1)) {
		t.Error("a call of what is no function fits")
	}
	if impl.CallsFit(lib, call(0, num(1), num(2), num(3), num(4))) {
		t.Error("a call with 4 arguments fits")
	}
}

func TestCallsFitOfInvalidExprs(t *testing.T) {
	lib := eightFuns()
	for arity := range impl.MaxArity + 1 {
		for i := range lib {
			lib[i] = def(i, arity, num(1))
		}
		for name, e := range invalidExprs() {
			if impl.CallsFit(lib, e) || impl.ClientValid(lib, e) || len(impl.CallsFrom(lib, e)) != 0 || len(impl.OldCalls(lib, e)) != 0 {
				t.Errorf("%s: the calls of an invalid expression fit", name)
			}
		}
		for i, e := range endlessExprs() {
			if impl.CallsFit(lib, e) || impl.ClientValid(lib, e) || len(impl.CallsFrom(lib, e)) != 0 || len(impl.OldCalls(lib, e)) != 0 {
				t.Errorf("the calls of the endless expression %d fit", i)
			}
		}
	}
}

func TestClients(t *testing.T) {
	lib := libraryOf(t, "A2=(a+b)\nB1~A(a,1)\nC0=C()\n")
	cases := map[string]bool{
		"0": true, "C()": true, "B(7)": true, "A(B(1),!C())": true, "{a=B(1);A(a,a)}": true, "{h=1;h}": true,
		"a": false, "B(a)": false, "{a=a;1}": false, "({a=1;a}+a)": false, "{a=1;b}": false,
		"B()": false, "A(1)": false, "C(1)": false, "D()": false, "{a=D();a}": false, "[1?2:B(1,2)]": false,
	}
	for text, want := range cases {
		e := exprOf(t, text)
		if got := impl.ClientValid(lib, e); got != want {
			t.Errorf("ClientValid(%q) = %v", text, got)
		}
		if got := impl.ClientValid(nil, e); got != (want && len(impl.CallsOf(e)) == 0) {
			t.Errorf("ClientValid(%q) without functions = %v", text, got)
		}
	}
}

// bodies are what two functions can have as their Bodies in the following test.
func bodies() []impl.Expr {
	a, b := variable(0), variable(1)
	return []impl.Expr{
		num(1), a, b, let(1, a, b), call(0), call(0, a), call(1), call(1, num(1)), call(2),
		add(call(0), call(1, call(0))), choice(num(1), call(0, num(1)), call(1)), out(call(1, call(1, num(2)))),
	}
}

func wantedBody(e impl.Expr, arity int, arities map[int]int) bool {
	for _, v := range impl.FreeVars(e) {
		if v >= arity {
			return false
		}
	}
	return wantedCalls(e, arities)
}

func wantedCalls(e impl.Expr, arities map[int]int) bool {
	if n, ok := arities[e.N]; e.Op == impl.OpCall && (!ok || n != len(e.Kids)) {
		return false
	}
	for _, k := range e.Kids {
		if !wantedCalls(k, arities) {
			return false
		}
	}
	return true
}

// A library is valid just if each of its Bodies fits, and then each of its
// parts that some client needs is a library of its own, of which it is a client.
func TestLibrariesAreClosedUnderCalls(t *testing.T) {
	valid := 0
	for _, x := range bodies() {
		for _, y := range bodies() {
			for n := range 9 {
				lib := []impl.Def{def(0, n/3, x), oldDef(1, n%3, y)}
				arities := map[int]int{0: n / 3, 1: n % 3}
				want := wantedBody(x, n/3, arities) && wantedBody(y, n%3, arities)
				if got := impl.LibraryValid(lib); got != want {
					t.Fatalf("LibraryValid of\n%s = %v", textOfLibrary(lib), got)
				}
				if want {
					valid++
					checkClosed(t, lib)
				}
			}
		}
	}
	if valid < 100 {
		t.Errorf("only %d libraries are valid", valid)
	}
}

func checkClosed(t *testing.T, lib []impl.Def) {
	t.Helper()
	for _, d := range lib {
		client := call(d.Name, make([]impl.Expr, d.Arity)...)
		for i := range client.Kids {
			client.Kids[i] = num(i)
		}
		if !impl.ClientValid(lib, client) {
			t.Errorf("%q is no client of\n%s", textOf(client), textOfLibrary(lib))
		}
		var part []impl.Def
		for _, f := range impl.CallsFrom(lib, client) {
			k, ok := impl.FindDef(lib, f)
			if !ok {
				t.Fatalf("CallsFrom lists %d, which is not in\n%s", f, textOfLibrary(lib))
			}
			part = append(part, lib[k])
		}
		if !impl.LibraryValid(part) || !impl.ClientValid(part, client) {
			t.Errorf("%q is no client of\n%s, a part of\n%s", textOf(client), textOfLibrary(part), textOfLibrary(lib))
		}
	}
}

// With a small stack, calls within each other would not get to the end of it.
func TestHugeLibraries(t *testing.T) {
	defer debug.SetMaxStack(debug.SetMaxStack(1 << 20))
	huge := make([]impl.Def, 1000000)
	deep := []impl.Def{def(0, 0, chain(200000))}
	for _, lib := range [][]impl.Def{huge, deep, append(deep, huge...)} {
		if impl.LibraryValid(lib) || impl.FormatLibrary(lib) != "" || impl.ClientValid(lib, num(1)) {
			t.Error("a huge library is valid")
		}
		if !impl.CallsFit(lib, call(0)) || impl.CallsFit(lib, call(1)) || impl.CallsFit(lib, deep[0].Body) {
			t.Error("CallsFit is wrong in a huge library")
		}
		if !impl.LibrarySame(lib, clonedTop(lib)) || impl.LibrarySame(lib, lib[1:]) {
			t.Error("LibrarySame is wrong for a huge library")
		}
		if k, ok := impl.FindDef(lib, 1); ok || k != 0 {
			t.Errorf("FindDef = %d, %v", k, ok)
		}
	}
}

func clonedTop(lib []impl.Def) []impl.Def { return append([]impl.Def{}, lib...) }
