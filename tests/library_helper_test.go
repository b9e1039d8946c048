package tests

import (
	"slices"
	"strconv"
	"testing"

	"loop.example/apimigrator/impl"
)

func def(name, arity int, body impl.Expr) impl.Def {
	return impl.Def{Name: name, Arity: arity, Body: body}
}

func oldDef(name, arity int, body impl.Expr) impl.Def {
	return impl.Def{Name: name, Arity: arity, Old: true, Body: body}
}

func exprOf(t *testing.T, text string) impl.Expr {
	t.Helper()
	e, ok := impl.ParseExpr(text)
	if !ok {
		t.Fatalf("ParseExpr(%q) is false", text)
	}
	return e
}

func libraryOf(t *testing.T, text string) []impl.Def {
	t.Helper()
	lib, ok := impl.ParseLibrary(text)
	if !ok {
		t.Fatalf("ParseLibrary(%q) is false", text)
	}
	return lib
}

// textOfLibrary writes the text that the document gives for lib, without any limits.
func textOfLibrary(lib []impl.Def) string {
	text := ""
	for _, d := range lib {
		sign := "="
		if d.Old {
			sign = "~"
		}
		text += string(rune('A'+d.Name)) + strconv.Itoa(d.Arity) + sign + textOf(d.Body) + "\n"
	}
	return text
}

// sameDefs compares without the functions under test.
func sameDefs(a, b []impl.Def) bool {
	return slices.EqualFunc(a, b, func(x, y impl.Def) bool {
		return x.Name == y.Name && x.Arity == y.Arity && x.Old == y.Old && sameTree(x.Body, y.Body)
	})
}

// clonedLibrary shares no memory with lib.
func clonedLibrary(lib []impl.Def) []impl.Def {
	var c []impl.Def
	for _, d := range lib {
		d.Body = cloned(d.Body)
		c = append(c, d)
	}
	return c
}

// eightFuns are as many functions as there may be, each of which calls the next one.
func eightFuns() []impl.Def {
	var lib []impl.Def
	for f := range impl.MaxFuns {
		lib = append(lib, def(f, 1, call((f+1)%impl.MaxFuns, variable(0))))
	}
	return lib
}

// invalidLibraries are no libraries, each for one reason.
func invalidLibraries() map[string][]impl.Def {
	one, two := num(1), call(1)
	m := map[string][]impl.Def{
		"zero value":                      {{}},
		"name -1":                         {def(-1, 0, one)},
		"name 8":                          {def(8, 0, one)},
		"name 8 behind others":            append(eightFuns(), def(8, 0, one)),
		"9 functions":                     append(eightFuns(), def(7, 1, one)),
		"arity -1":                        {def(0, -1, one)},
		"arity 4":                         {def(0, 4, one)},
		"huge arity":                      {def(0, 1<<62, one)},
		"not in order":                    {def(1, 0, one), def(0, 0, one)},
		"not in order at the end":         {def(0, 0, one), def(2, 0, one), def(1, 0, one)},
		"the same name twice":             {def(0, 0, one), def(0, 0, one)},
		"the same name with other fields": {def(0, 0, one), oldDef(0, 1, num(2))},
		"variable without arguments":      {def(0, 0, variable(0))},
		"variable behind the arguments":   {def(0, 1, add(variable(0), variable(1)))},
		"variable behind 3 arguments":     {def(0, 3, variable(3))},
		"variable outside its let":        {def(0, 0, add(let(0, one, variable(0)), variable(0)))},
		"variable in its own let":         {def(0, 0, let(0, variable(0), one))},
		"call of no function":             {def(0, 0, two)},
		"call of no function, inside":     {def(0, 1, let(1, out(two), variable(0)))},
		"call of no function, at last":    {def(0, 0, one), def(2, 0, call(0)), def(3, 1, call(4, variable(0)))},
		"call with more arguments":        {def(0, 0, call(1, one)), def(1, 0, one)},
		"call with fewer arguments":       {def(0, 1, one), def(1, 0, call(0))},
		"call of itself with fewer":       {def(0, 2, call(0, variable(0)))},
		"call of itself with more":        {def(0, 0, call(0, one))},
		"call with 4 arguments":           {def(0, 3, call(0, one, one, one, one))},
		"out of use, not in order":        {oldDef(1, 0, one), oldDef(0, 0, one)},
	}
	for name, e := range invalidExprs() {
		m["Body: "+name] = []impl.Def{def(0, 3, e)}
		m["Body inside: "+name] = []impl.Def{def(0, 0, one), oldDef(1, 3, out(e))}
	}
	for i, e := range endlessExprs() {
		m["endless Body "+strconv.Itoa(i)] = []impl.Def{def(0, 0, one), def(1, 3, e)}
	}
	return m
}
