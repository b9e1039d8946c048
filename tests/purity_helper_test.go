package tests

import (
	"math/rand"
	"testing"

	"loop.example/apimigrator/impl"
)

// purityLibrary has the functions A, B, G and H, which are quiet and ending; C
// and E, which are only ending; and D and F, which are only quiet.
const purityLibrary = "A2=(a+b)\nB1~A(a,1)\nC1=B(!a)\nD1=[a?D((a+99)):0]\nE0~!7\nF1=D(a)\nG0=42\nH3={a=b;(a+B(c))}\n"

// callGraph says, for each function of lib, which ones are called from its Body, also within others.
func callGraph(lib []impl.Def) map[int]map[int]bool {
	graph := map[int]map[int]bool{}
	for _, d := range lib {
		graph[d.Name] = namesIn(d.Body, impl.OpCall)
	}
	for via := range graph {
		for from := range graph {
			for to := range graph {
				if graph[from][via] && graph[via][to] {
					graph[from][to] = true
				}
			}
		}
	}
	return graph
}

func hasOut(e impl.Expr) bool {
	if e.Op == impl.OpOut {
		return true
	}
	for _, kid := range e.Kids {
		if hasOut(kid) {
			return true
		}
	}
	return false
}

// quietByRule and endingByRule are the rules of the document: they look at the
// function itself and at all that are called from it.
func quietByRule(lib []impl.Def) map[int]bool {
	graph := callGraph(lib)
	quiet := map[int]bool{}
	for _, f := range lib {
		quiet[f.Name] = true
		for _, d := range lib {
			if (d.Name == f.Name || graph[f.Name][d.Name]) && hasOut(d.Body) {
				quiet[f.Name] = false
			}
		}
	}
	return quiet
}

func endingByRule(lib []impl.Def) map[int]bool {
	graph := callGraph(lib)
	ending := map[int]bool{}
	for _, f := range lib {
		ending[f.Name] = !graph[f.Name][f.Name]
		for g := range graph[f.Name] {
			if graph[g][g] {
				ending[f.Name] = false
			}
		}
	}
	return ending
}

func pureByRule(lib []impl.Def, e impl.Expr) bool {
	quiet, ending := quietByRule(lib), endingByRule(lib)
	for f := range namesIn(e, impl.OpCall) {
		if !quiet[f] || !ending[f] {
			return false
		}
	}
	return !hasOut(e)
}

func endingExprByRule(lib []impl.Def, e impl.Expr) bool {
	ending := endingByRule(lib)
	for f := range namesIn(e, impl.OpCall) {
		if !ending[f] {
			return false
		}
	}
	return true
}

// boundByRule is the bound of an expression that calls ending functions only, without any limits.
func boundByRule(lib []impl.Def, e impl.Expr) int {
	n := 0
	if e.Op == impl.OpCall {
		n = 1
		for _, d := range lib {
			if d.Name == e.N {
				n += boundByRule(lib, d.Body)
			}
		}
	}
	if e.Op == impl.OpIf {
		x, y := boundByRule(lib, e.Kids[1]), boundByRule(lib, e.Kids[2])
		return boundByRule(lib, e.Kids[0]) + max(x, y)
	}
	for _, kid := range e.Kids {
		n += boundByRule(lib, kid)
	}
	return n
}

// sayings lists all that is said in e about v coming first, in order: y where
// it does, and n where it does not. What counts is the first one.
func sayings(lib []impl.Def, e impl.Expr, v int) string {
	var of []string
	for _, kid := range e.Kids {
		of = append(of, sayings(lib, kid, v))
	}
	switch e.Op {
	case impl.OpVar:
		if e.N == v {
			return "y"
		}
		return ""
	case impl.OpOut:
		return of[0] + "n"
	case impl.OpIf:
		x, y := (of[1] + ".")[:1], (of[2] + ".")[:1]
		if x != y {
			return of[0] + "n"
		}
		return of[0] + of[1]
	case impl.OpLet:
		if e.N == v && !pureByRule(lib, e.Kids[1]) {
			return of[0] + "n"
		}
		if e.N == v {
			return of[0]
		}
	}
	said := ""
	for _, s := range of {
		said += s
	}
	if e.Op == impl.OpCall && !pureByRule(lib, impl.Expr{Op: impl.OpCall, N: e.N}) {
		said += "n"
	}
	return said
}

func firstByRule(lib []impl.Def, e impl.Expr, v int) bool {
	said := sayings(lib, e, v)
	return said != "" && said[0] == 'y'
}

// quieted is e with each OpOut replaced by its operand.
func quieted(e impl.Expr) impl.Expr {
	if e.Op == impl.OpOut {
		return quieted(e.Kids[0])
	}
	c := impl.Expr{Op: e.Op, N: e.N}
	for _, kid := range e.Kids {
		c.Kids = append(c.Kids, quieted(kid))
	}
	return c
}

// calmLibrary is a random library of which some functions put something out,
// some call themselves, also within others, and some do neither.
func calmLibrary(r *rand.Rand, depth int) ([]impl.Def, map[int]int) {
	arities := map[int]int{}
	for f := range impl.MaxFuns {
		if r.Intn(4) > 0 {
			arities[f] = r.Intn(impl.MaxArity + 1)
		}
	}
	var lib []impl.Def
	for f := range impl.MaxFuns {
		arity, ok := arities[f]
		if !ok {
			continue
		}
		called := map[int]int{}
		upwards := r.Intn(8) > 0
		for g := range impl.MaxFuns {
			if n, ok := arities[g]; ok && (g > f || !upwards) {
				called[g] = n
			}
		}
		d := def(f, arity, randomExpr(r, depth, allVars[:arity], called))
		if r.Intn(4) > 0 {
			d.Body = quieted(d.Body)
		}
		d.Old = r.Intn(2) == 0
		lib = append(lib, d)
	}
	return lib, arities
}

// calmCase is a valid random library, and an expression that fits it.
func calmCase(r *rand.Rand) ([]impl.Def, impl.Expr) {
	for {
		lib, arities := calmLibrary(r, 3)
		e := randomExpr(r, 2+r.Intn(4), allVars, arities)
		if r.Intn(2) == 0 {
			e = quieted(e)
		}
		if impl.LibraryValid(lib) && impl.ExprValid(e, allVars) {
			return lib, e
		}
	}
}

func randomValues(r *rand.Rand) []int {
	var vars []int
	for range impl.MaxVars {
		vars = append(vars, r.Intn(3)*r.Intn(50))
	}
	return vars
}

func wantBound(t *testing.T, lib []impl.Def, e impl.Expr, most, want int) {
	t.Helper()
	if n, ok := impl.CallBound(lib, e, most); !ok || n != want {
		t.Errorf("CallBound of %s up to %d = %d, %v, want %d", textOf(e), most, n, ok, want)
	}
}

func wantNoBound(t *testing.T, what string, lib []impl.Def, e impl.Expr, most int) {
	t.Helper()
	if n, ok := impl.CallBound(lib, e, most); ok || n != 0 {
		t.Errorf("%s: CallBound up to %d = %d, %v, want none", what, most, n, ok)
	}
}
