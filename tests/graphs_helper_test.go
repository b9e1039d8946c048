package tests

import (
	"math/rand"
	"slices"
	"testing"

	"loop.example/apimigrator/impl"
)

// callsByRule says what the Body of a function calls itself.
func callsByRule(lib []impl.Def, name int) map[int]bool {
	d, _ := defOf(lib, name)
	return namesIn(d.Body, impl.OpCall)
}

func callersByRule(lib []impl.Def, name int) []int {
	var list []int
	for _, d := range lib {
		if callsByRule(lib, d.Name)[name] {
			list = append(list, d.Name)
		}
	}
	return list
}

// usedByRule is for a valid library and clients of it.
func usedByRule(lib []impl.Def, clients []impl.Expr, name int) bool {
	graph := callGraph(lib)
	for _, e := range clients {
		for f := range namesIn(e, impl.OpCall) {
			if f == name || graph[f][name] {
				return true
			}
		}
	}
	return false
}

// heightByRule is the level of a function that is ending.
func heightByRule(lib []impl.Def, name int) int {
	level := 0
	for f := range callsByRule(lib, name) {
		level = max(level, 1+heightByRule(lib, f))
	}
	return level
}

// mayStandBehind reports whether a Body calls only functions of this list.
func mayStandBehind(lib []impl.Def, list []int, name int) bool {
	for f := range callsByRule(lib, name) {
		if !slices.Contains(list, f) {
			return false
		}
	}
	return true
}

// isOrderByRule looks at each place: the function may stand there, and no lesser
// one that stands behind it may.
func isOrderByRule(lib []impl.Def, order []int) bool {
	for i, name := range order {
		if !mayStandBehind(lib, order[:i], name) {
			return false
		}
		for _, f := range order[i+1:] {
			if f == name || f < name && mayStandBehind(lib, order[:i], f) {
				return false
			}
		}
	}
	return len(order) == len(lib)
}

// hasCircleByRule also returns the least function that is called from its own Body.
func hasCircleByRule(lib []impl.Def) (int, bool) {
	graph := callGraph(lib)
	for f := range impl.MaxFuns {
		if graph[f][f] {
			return f, true
		}
	}
	return 0, false
}

// circleByRule makes all ways from the first function that go to no function
// twice, and end where the first one is called. Those that always go to the least
// function that they can come first when the ways are put in order.
func circleByRule(lib []impl.Def) []int {
	first, ok := hasCircleByRule(lib)
	if !ok {
		return nil
	}
	var circles [][]int
	for ways := [][]int{{first}}; len(ways) > 0; {
		var longer [][]int
		for _, way := range ways {
			calls := callsByRule(lib, way[len(way)-1])
			if calls[first] {
				circles = append(circles, way)
				continue
			}
			for f := range calls {
				if !slices.Contains(way, f) {
					longer = append(longer, append(slices.Clone(way), f))
				}
			}
		}
		ways = longer
	}
	return slices.MinFunc(circles, slices.Compare)
}

// checkGraph compares the functions that look at a valid library alone with the
// rules, and counts what there is.
func checkGraph(t *testing.T, lib []impl.Def, count map[string]int) {
	t.Helper()
	text, ending := textOfLibrary(lib), endingByRule(lib)
	for name := -1; name <= impl.MaxFuns; name++ {
		wantInts(t, "CallersOf "+textOf(call(name))+" in "+text, impl.CallersOf(lib, name), callersByRule(lib, name)...)
		want, wantOk := 0, ending[name]
		if wantOk {
			want = heightByRule(lib, name)
		}
		if got, ok := impl.LevelOfFun(lib, name); got != want || ok != wantOk {
			t.Errorf("LevelOfFun of %s = %d, %v, want %d, %v, in %s", textOf(call(name)), got, ok, want, wantOk, text)
		}
	}
	_, has := hasCircleByRule(lib)
	order, ok := impl.OrderOfFuns(lib)
	if ok == has || ok && !isOrderByRule(lib, order) || !ok && len(order) != 0 {
		t.Errorf("OrderOfFuns = %v, %v in %s", order, ok, text)
	}
	circle, ok := impl.CircleOf(lib)
	if ok != has {
		t.Errorf("CircleOf = %v, %v in %s", circle, ok, text)
	}
	wantInts(t, "CircleOf "+text, circle, circleByRule(lib)...)
	if has {
		count["circle"]++
		count["circle of "+numberText(len(circle))]++
	} else {
		count["order"]++
	}
}

// checkTrimmed compares the functions that have clients with the rules, for a
// valid library and clients of it.
func checkTrimmed(t *testing.T, lib []impl.Def, clients []impl.Expr, count map[string]int) {
	t.Helper()
	var unused []int
	var kept []impl.Def
	for _, d := range lib {
		if usedByRule(lib, clients, d.Name) {
			kept = append(kept, d)
		} else {
			unused = append(unused, d.Name)
		}
	}
	text := textOfLibrary(lib)
	for _, e := range clients {
		text += textOf(e) + "\n"
	}
	wantInts(t, "UnusedFuns of "+text, impl.UnusedFuns(lib, clients), unused...)
	got, ok := impl.TrimLibrary(lib, clients)
	wantLibrary(t, "TrimLibrary of "+text, got, ok, textOfLibrary(kept))
	switch {
	case len(kept) == 0:
		count["none used"]++
	case len(unused) == 0:
		count["all used"]++
	default:
		count["some used"]++
	}
}

// libraryOfCalls has the functions with these names, each of which calls those for which calls holds.
func libraryOfCalls(names []int, calls func(i, j int) bool) []impl.Def {
	var lib []impl.Def
	for i, f := range names {
		body := num(f)
		for j, g := range names {
			if calls(i, j) {
				body = add(call(g), body)
			}
		}
		lib = append(lib, def(f, 0, body))
	}
	return lib
}

// libraryOfBits has three or four functions. The graphs of calls among them are
// numbered by their bits.
func libraryOfBits(names []int, bits int) []impl.Def {
	return libraryOfCalls(names, func(i, j int) bool { return bits>>(len(names)*i+j)&1 == 1 })
}

// randomGraph has eight functions with about the given number of calls in each Body.
func randomGraph(r *rand.Rand, many int, upwards bool) []impl.Def {
	places := r.Perm(impl.MaxFuns)
	return libraryOfCalls([]int{0, 1, 2, 3, 4, 5, 6, 7}, func(i, j int) bool {
		return r.Intn(impl.MaxFuns) < many && (!upwards || places[i] < places[j])
	})
}

// trimCase is a valid random library, and some clients of it, most of which make calls.
func trimCase(r *rand.Rand) ([]impl.Def, []impl.Expr) {
	for {
		lib, arities := calmLibrary(r, 2+r.Intn(2))
		if r.Intn(2) == 0 {
			lib, arities = randomGraph(r, 1+r.Intn(2), r.Intn(2) == 0), map[int]int{}
		}
		var clients []impl.Expr
		for range r.Intn(5) {
			e := randomExpr(r, 1+r.Intn(3), nil, arities)
			if len(lib) > 0 {
				d := lib[r.Intn(len(lib))]
				e = add(e, call(d.Name, slices.Repeat([]impl.Expr{out(num(3))}, d.Arity)...))
			}
			clients = append(clients, e)
		}
		if impl.LibraryValid(lib) && !slices.ContainsFunc(clients, func(e impl.Expr) bool { return !impl.ClientValid(lib, e) }) {
			return lib, clients
		}
	}
}
