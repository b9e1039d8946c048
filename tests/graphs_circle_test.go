package tests

import (
	"math/rand"
	"slices"
	"testing"

	"loop.example/apimigrator/impl"
)

// wantCircle gives the letters of the circle, or the empty string if there is none.
func wantCircle(t *testing.T, lib []impl.Def, want string) {
	t.Helper()
	text := ""
	circle, ok := impl.CircleOf(lib)
	for _, f := range circle {
		text += string(rune('A' + f))
	}
	if ok != (want != "") || text != want {
		t.Errorf("CircleOf of %s = %s, %v, want %s", textOfLibrary(lib), text, ok, want)
	}
	if len(lib) > 0 {
		checkGraph(t, lib, map[string]int{})
	}
}

func TestCircles(t *testing.T) {
	for text, want := range map[string]string{
		"": "", "A0=1\n": "", "A1=B(a)\nB1=C(a)\nC1=A(a)\n": "ABC",
		"A0=1\nB0=A()\nC0=(A()+B())\n": "", "A0=(B()+C())\nB0=(C()+D())\nC0=D()\nD0=1\n": "",
		// A function that calls itself, also if this is not evaluated.
		"A0=A()\n": "A", "H1~[0?H(a):1]\n": "H", "A0=1\nB0={b=2;!B()}\nC0=C()\n": "B", "A1=A(A(a))\n": "A",
		// It is a circle of its own, also if there are longer ones, and lesser functions to go to.
		"A0=(B()+A())\nB0=A()\n": "A", "A0=B()\nB0=(A()+B())\n": "AB", "C0=(D()+C())\nD0=C()\n": "C", "A0=1\nC0=(A()+C())\n": "C",
		"A0=B()\nB0=B()\n": "B", "A0=B()\nB0=C()\nC0=C()\n": "C", "A0=(B()+C())\nB0=B()\nC0=A()\n": "AC",
		// A circle that begins behind other calls.
		"A0=B()\nB0=D()\nC0=B()\nD0=C()\n": "BDC", "A0=H()\nB0=A()\nG0=H()\nH0=G()\n": "GH", "A0=C()\nB0=C()\nC0=D()\nD0=C()\n": "CD", "A0=1\nB0=(A()+D())\nC0=B()\nD0=(E()+A())\nE0=D()\n": "DE",
		// The function that is reached calls the first one: this comes before lesser functions.
		"A0=(B()+C())\nB0=(A()+C())\nC0=A()\n": "AB", "A0=C()\nB0=A()\nC0=(A()+B())\n": "AC", "A0=D()\nB0=A()\nC0=A()\nD0=(B()+(C()+A()))\n": "AD",
		// The least function is tried first, also if this makes the circle longer.
		"A0=(B()+D())\nB0=C()\nC0=D()\nD0=A()\n": "ABCD", "A0=(D()+B())\nB0=(D()+C())\nC0=D()\nD0=A()\n": "ABCD", "A0=(C()+B())\nB0=A()\nC0=A()\n": "AB",
		// Functions that do not call the first one are left out.
		"A0=(B()+C())\nB0=1\nC0=A()\n": "AC", "A0=(B()+C())\nB0=D()\nC0=A()\nD0=B()\n": "AC", "A0=(B()+(C()+D()))\nB0=1\nC0=B()\nD0=(B()+(C()+E()))\nE0=A()\n": "ADE",
		// None of them leads to a circle: this goes back by one function, and by more.
		"A0=B()\nB0=(C()+D())\nC0=B()\nD0=A()\n": "ABD", "A0=(B()+C())\nB0=(C()+D())\nC0=B()\nD0=A()\n": "ABD",
		"A0=B()\nB0=(C()+E())\nC0=D()\nD0=B()\nE0=A()\n": "ABE", "A0=B()\nB0=(C()+F())\nC0=(D()+E())\nD0=(B()+C())\nE0=D()\nF0=A()\n": "ABF",
		"A0=B()\nB0=(C()+D())\nC0=E()\nD0=(E()+F())\nE0=B()\nF0=A()\n": "ABDF", "B0=C()\nC0=(D()+H())\nD0=(E()+F())\nE0=C()\nF0=E()\nH0=(D()+B())\n": "BCH",
		"A0=B()\nB0=(C()+E())\nC0=D()\nD0=B()\nE0=(C()+F())\nF0=(D()+A())\n": "ABEF",
		// The first function is the least one of all circles.
		"A0=1\nB0=H()\nC0=D()\nD0=C()\nH0=B()\n": "BH", "B0=C()\nC0=(B()+D())\nD0=C()\n": "BC", "A0=D()\nB0=C()\nC0=B()\nD0=E()\nE0=D()\n": "BC",
	} {
		wantCircle(t, libraryOf(t, text), want)
	}
}

// All functions are one circle, in either direction.
func TestLongCircles(t *testing.T) {
	wantCircle(t, eightFuns(), "ABCDEFGH")
	names := []int{0, 1, 2, 3, 4, 5, 6, 7}
	wantCircle(t, libraryOfCalls(names, func(i, j int) bool { return (j+1)%8 == i }), "AHGFEDCB")
	wantCircle(t, libraryOfCalls(names, func(i, j int) bool { return (i+3)%8 == j }), "ADGBEHCF")
	// Without one of the calls, there is none.
	for open := range 8 {
		lib := eightFuns()
		lib[open].Body = variable(0)
		wantCircle(t, lib, "")
		if order, ok := impl.OrderOfFuns(lib); !ok || len(order) != 8 || order[0] != open {
			t.Errorf("OrderOfFuns of %s = %v, %v", textOfLibrary(lib), order, ok)
		}
	}
	// All call all, or all others, or all those but the first one and the next one.
	wantCircle(t, libraryOfCalls(names, func(i, j int) bool { return true }), "A")
	wantCircle(t, libraryOfCalls(names, func(i, j int) bool { return i != j }), "AB")
	wantCircle(t, libraryOfCalls(names, func(i, j int) bool { return i != j && (j > 0 || i == 7) }), "ABCDEFGH")
	wantCircle(t, libraryOfCalls(names, func(i, j int) bool { return i != j && (j > 0 || i == 4) }), "ABCDE")
	wantCircle(t, libraryOfCalls(names, func(i, j int) bool { return i > j }), "")
}

// Each function of a circle calls the next one, and the last one the first one.
// None is there twice, and the first one is the least one.
func TestCirclesAreCircles(t *testing.T) {
	r := rand.New(rand.NewSource(64))
	found := 0
	for range 3000 {
		lib := randomGraph(r, 1+r.Intn(2), false)
		circle, ok := impl.CircleOf(lib)
		if !ok {
			continue
		}
		found++
		var seen [impl.MaxFuns]bool
		for i, f := range circle {
			next := circle[(i+1)%len(circle)]
			if !callsByRule(lib, f)[next] || seen[f] || f < circle[0] {
				t.Errorf("CircleOf = %v in %s", circle, textOfLibrary(lib))
			}
			seen[f] = true
		}
		// None of them comes to an end, so that none has a place in an order.
		for _, f := range circle {
			if slices.Contains(impl.EndingFuns(lib), f) {
				t.Errorf("%s is in the circle %v, and ending, in %s", textOf(call(f)), circle, textOfLibrary(lib))
			}
		}
	}
	wantCounts(t, map[string]int{"circle": found}, map[string]int{"circle": 2000})
}
