package tests

import (
	"math/rand"
	"strings"
	"testing"

	"loop.example/apimigrator/impl"
)

// wrapperByRule is what a function that is a wrapper calls.
func wrapperByRule(lib []impl.Def, name int) (int, bool) {
	d, ok := defOf(lib, name)
	if !ok || d.Body.Op != impl.OpCall || d.Body.N == name {
		return 0, false
	}
	for _, kid := range d.Body.Kids {
		if !isAtomByRule(kid) {
			return 0, false
		}
	}
	return d.Body.N, true
}

// targetByRule goes on for longer than it could without going in a circle.
func targetByRule(lib []impl.Def, name int) (int, bool) {
	next, ok := wrapperByRule(lib, name)
	if !ok {
		return 0, false
	}
	for range 50 {
		name = next
		if next, ok = wrapperByRule(lib, name); !ok {
			return name, true
		}
	}
	return 0, false
}

// wantWrappers gives for each function from A on the letter of its target, . if
// it is a wrapper without one, and - if it is none.
func wantWrappers(t *testing.T, lib []impl.Def, want string) {
	t.Helper()
	for name := -2; name < 12; name++ {
		sign := byte('-')
		if name >= 0 && name < len(want) {
			sign = want[name]
		}
		if is := impl.IsWrapper(lib, name); is != (sign != '-') {
			t.Errorf("with %s, IsWrapper of %d is %v", textOfLibrary(lib), name, is)
		}
		target, ok := impl.WrapperTarget(lib, name)
		if (sign == '-' || sign == '.') && (ok || target != 0) {
			t.Errorf("with %s, WrapperTarget of %d = %d, %v, want none", textOfLibrary(lib), name, target, ok)
		}
		if sign >= 'A' && (!ok || target != int(sign-'A')) {
			t.Errorf("with %s, WrapperTarget of %d = %d, %v, want %c", textOfLibrary(lib), name, target, ok, sign)
		}
	}
}

func TestWrappers(t *testing.T) {
	wantWrappers(t, libraryOf(t, inlineLibrary), "-A---A--")
	for text, want := range map[string]string{
		"":       "",
		"A0=1\n": "-",
		// What is a wrapper, and what is none.
		"A2=(a+b)\nB2=A(a,b)\nC1~A(99,0)\nD3=A(c,c)\nE0=A(1,2)\nF1=A(a,!a)\nG1=!A(a,1)\nH1={b=a;A(a,b)}\n": "-AAAA---",
		"A0=7\nB0=A()\nC3=A()\nD0~B()\nE0=(A()+0)\nF0={0;A()}\nG0=[1?A():A()]\n":                           "-AAA---",
		"A1=a\nB1=A((a+1))\nC1=A(A(a))\nD1=A({a=1;a})\nE1=A([a?1:2])\nF1=A((a<1))\nG1=A({1;a})\nH0=A(5)\n": "-------A",
		"A3=(a+(b+c))\nB3=A(!a,b,c)\nC3=A(a,!b,c)\nD3=A(a,b,!c)\nE3=A(c,b,a)\nF3=A(1,2,A(3,4,5))\n":        "----A-",
		// Wrappers of wrappers, in either order.
		"A1=a\nB1=A(a)\nC1=B(a)\nD1=C(a)\nE1=D(a)\nF1=E(a)\nG1=F(a)\nH1=G(a)\n":  "-AAAAAAA",
		"A1=B(a)\nB1=C(a)\nC1=D(a)\nD1=E(a)\nE1=F(a)\nF1=G(a)\nG1=H(a)\nH1=!a\n": "HHHHHHH-",
		"A1=C(a)\nC1=F(1)\nF1=(a+1)\nH1=A(2)\n":                                  "F-F----F",
		// They come to no end.
		"A1=A(a)\n":                                  "-",
		"A1=B(a)\nB1=A(a)\n":                         "..",
		"A1=B(a)\nB1=C(a)\nC1=A(a)\nD1=A(1)\n":       "....",
		"A1=B(a)\nB1=C(a)\nC1=B(a)\nD1=E(a)\nE1=a\n": "...E-",
		"A1=B(a)\nB1=C(a)\nC1=D(a)\nD1=E(a)\nE1=F(a)\nF1=G(a)\nG1=H(a)\nH1=A(a)\n": "........",
		"A1=B(a)\nB1=C(a)\nC1=D(a)\nD1=E(a)\nE1=F(a)\nF1=G(a)\nG1=H(a)\nH1=G(a)\n": "........",
		// A function that calls itself is no wrapper, so that it is an end.
		"A1=A(a)\nB1=A(a)\nC1~B(a)\n":  "-AA",
		"A1=B(a)\nB1=A(!a)\nC1=A(a)\n": "B-B",
		"A1=B(a)\nB1={A(a);B(a)}\n":    "B-",
	} {
		wantWrappers(t, libraryOf(t, text), want)
	}
}

func TestWrappersByRule(t *testing.T) {
	r := rand.New(rand.NewSource(24))
	found := map[string]int{}
	for range 5000 {
		var b strings.Builder
		for f := range impl.MaxFuns {
			kid := []string{"a", "1", "a", "0", "!a"}[r.Intn(5)]
			body := string(rune('A'+r.Intn(impl.MaxFuns))) + "(" + kid + ")"
			if r.Intn(6) == 0 {
				body = "(" + body + "+1)"
			}
			b.WriteString(string(rune('A'+f)) + "1=" + body + "\n")
		}
		lib := libraryOf(t, b.String())
		for name := range impl.MaxFuns {
			_, is := wrapperByRule(lib, name)
			want, ends := targetByRule(lib, name)
			got, ok := impl.WrapperTarget(lib, name)
			if impl.IsWrapper(lib, name) != is || ok != ends || got != want {
				t.Errorf("with %s, the target of %d is %d, %v, want %d, %v", b.String(), name, got, ok, want, ends)
			}
			switch {
			case ends:
				found["target"]++
			case is:
				found["circle"]++
			default:
				found["none"]++
			}
		}
	}
	wantCounts(t, found, map[string]int{"target": 5000, "circle": 3000, "none": 5000})
}

// What a wrapper calls in the end is what is called last.
func TestWrapperTargetsAreCalled(t *testing.T) {
	lib := libraryOf(t, inlineLibrary)
	for name, text := range map[int]string{1: "B(!5)", 5: "F(!5,!6)"} {
		target, ok := impl.WrapperTarget(lib, name)
		x := impl.EvalClient(lib, exprOf(t, text), 50)
		if !ok || len(x.Calls) != 2 || x.Calls[0] != name || x.Calls[1] != target {
			t.Errorf("%s calls %v, but the target is %d, %v", text, x.Calls, target, ok)
		}
	}
}
