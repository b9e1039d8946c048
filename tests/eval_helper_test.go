package tests

import (
	"math/rand"
	"slices"
	"testing"

	"loop.example/apimigrator/impl"
)

func done(value int, put []int, calls ...int) impl.Outcome {
	return impl.Outcome{Code: impl.EvalDone, Value: value, Out: put, Calls: calls}
}

func ended(code int, put []int, calls ...int) impl.Outcome {
	return impl.Outcome{Code: code, Out: put, Calls: calls}
}

// sameOutcome compares without the functions under test.
func sameOutcome(a, b impl.Outcome) bool {
	return a.Code == b.Code && a.Value == b.Value && slices.Equal(a.Out, b.Out) && slices.Equal(a.Calls, b.Calls)
}

func wantOutcome(t *testing.T, what string, got, want impl.Outcome) {
	t.Helper()
	if !sameOutcome(got, want) {
		t.Errorf("%s = %v, want %v", what, got, want)
	}
}

func wantInvalid(t *testing.T, what string, got impl.Outcome) {
	t.Helper()
	wantOutcome(t, what, got, impl.Outcome{Code: 3})
}

// inBody is the Op of a node around a Body that is being evaluated.
const inBody = 100

// rewriting evaluates in another way than the program does: what is evaluated
// next is replaced by what it becomes, and each variable by its value, until
// only a number is there.
type rewriting struct {
	lib  []impl.Def
	fuel int
	got  impl.Outcome
}

func outcomeByRewriting(lib []impl.Def, e impl.Expr, fuel int) impl.Outcome {
	r := rewriting{lib: lib, fuel: fuel}
	for e.Op != impl.OpNum {
		e = r.step(e, 0)
		if r.got.Code != impl.EvalDone {
			return r.got
		}
	}
	r.got.Value = e.N
	return r.got
}

func (r *rewriting) step(e impl.Expr, nest int) impl.Expr {
	evaluated := len(e.Kids)
	if e.Op == impl.OpIf || e.Op == impl.OpLet {
		evaluated = 1
	}
	for i, kid := range e.Kids[:evaluated] {
		if kid.Op == impl.OpNum {
			continue
		}
		if e.Op == inBody {
			nest++
		}
		e.Kids = slices.Clone(e.Kids)
		e.Kids[i] = r.step(kid, nest)
		return e
	}
	return r.become(e, nest)
}

// become returns what e becomes, whose operands that are evaluated before it are numbers.
func (r *rewriting) become(e impl.Expr, nest int) impl.Expr {
	switch e.Op {
	case impl.OpCall:
		return r.called(e, nest)
	case impl.OpAdd:
		return num((e.Kids[0].N + e.Kids[1].N) % 100)
	case impl.OpLess:
		if e.Kids[0].N < e.Kids[1].N {
			return num(1)
		}
		return num(0)
	case impl.OpIf:
		if e.Kids[0].N != 0 {
			return e.Kids[1]
		}
		return e.Kids[2]
	case impl.OpLet:
		return withValue(e.Kids[1], e.N, e.Kids[0].N)
	case impl.OpSeq:
		return e.Kids[1]
	case impl.OpOut:
		r.got.Out = append(r.got.Out, e.Kids[0].N)
	}
	return e.Kids[0]
}

func (r *rewriting) called(e impl.Expr, nest int) impl.Expr {
	if r.fuel == 0 {
		r.got.Code = impl.EvalFuel
		return e
	}
	if nest == 60 {
		r.got.Code = impl.EvalNest
		return e
	}
	r.fuel--
	r.got.Calls = append(r.got.Calls, e.N)
	k := slices.IndexFunc(r.lib, func(d impl.Def) bool { return d.Name == e.N })
	body := r.lib[k].Body
	for v, kid := range e.Kids {
		body = withValue(body, v, kid.N)
	}
	return impl.Expr{Op: inBody, Kids: []impl.Expr{body}}
}

// withValue is e with a number for the variable v where that is free.
func withValue(e impl.Expr, v, n int) impl.Expr {
	if e.Op == impl.OpVar && e.N == v {
		return num(n)
	}
	kids := slices.Clone(e.Kids)
	for i, kid := range kids {
		if e.Op != impl.OpLet || i == 0 || e.N != v {
			kids[i] = withValue(kid, v, n)
		}
	}
	return impl.Expr{Op: e.Op, N: e.N, Kids: kids}
}

// randomExpr has at most the given depth, the first variables free, and calls
// of functions with the given arities.
func randomExpr(r *rand.Rand, depth int, scope []int, arities map[int]int) impl.Expr {
	if depth == 1 || r.Intn(8) == 0 {
		if len(scope) > 0 && r.Intn(3) > 0 {
			return variable(scope[r.Intn(len(scope))])
		}
		return num(r.Intn(100) * r.Intn(2))
	}
	kid := func() impl.Expr { return randomExpr(r, depth-1, scope, arities) }
	switch r.Intn(8) {
	case 0:
		return add(kid(), kid())
	case 1:
		return less(kid(), kid())
	case 2:
		return choice(kid(), kid(), kid())
	case 3:
		return seq(kid(), kid())
	case 4:
		return out(kid())
	case 5:
		v := r.Intn(impl.MaxVars)
		return let(v, kid(), randomExpr(r, depth-1, append(slices.Clone(scope), v), arities))
	}
	f := r.Intn(impl.MaxFuns)
	arity, ok := arities[f]
	if !ok {
		return kid()
	}
	e := call(f)
	for range arity {
		e.Kids = append(e.Kids, kid())
	}
	return e
}

func randomLibrary(r *rand.Rand, depth int) ([]impl.Def, map[int]int) {
	arities := map[int]int{}
	for f := range impl.MaxFuns {
		if r.Intn(2) == 0 {
			arities[f] = r.Intn(impl.MaxArity + 1)
		}
	}
	var lib []impl.Def
	for f := range impl.MaxFuns {
		if arity, ok := arities[f]; ok {
			d := def(f, arity, randomExpr(r, depth, allVars[:arity], arities))
			d.Old = r.Intn(2) == 0
			lib = append(lib, d)
		}
	}
	return lib, arities
}
