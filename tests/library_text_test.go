package tests

import (
	"strings"
	"testing"

	"loop.example/apimigrator/impl"
)

func checkLibraryReadBack(t *testing.T, lib []impl.Def, text string) {
	t.Helper()
	if got := impl.FormatLibrary(lib); got != text {
		t.Errorf("FormatLibrary = %q, want %q", got, text)
	}
	got, ok := impl.ParseLibrary(text)
	if !ok || !sameDefs(got, lib) {
		t.Errorf("ParseLibrary(%q) = %v, %v, want %v", text, got, ok, lib)
	}
}

func checkLibraryRefused(t *testing.T, text string) {
	t.Helper()
	if lib, ok := impl.ParseLibrary(text); ok || len(lib) != 0 {
		t.Errorf("ParseLibrary(%.60q) = %v, %v", text, lib, ok)
	}
}

// Whatever is read is valid, and has just the text that it was read from.
func checkLibraryRefusedOrReadBack(t *testing.T, text string) bool {
	t.Helper()
	lib, ok := impl.ParseLibrary(text)
	if ok && (textOfLibrary(lib) != text || impl.FormatLibrary(lib) != text || !impl.LibraryValid(lib)) || !ok && len(lib) != 0 {
		t.Errorf("ParseLibrary(%q) = %v, %v", text, lib, ok)
	}
	return ok
}

func TestTextsOfLibraries(t *testing.T) {
	a, b, c := variable(0), variable(1), variable(2)
	cases := []struct {
		lib  []impl.Def
		text string
	}{
		{nil, ""},
		{[]impl.Def{}, ""},
		{[]impl.Def{def(0, 0, num(7))}, "A0=7\n"},
		{[]impl.Def{oldDef(7, 3, c)}, "H3~c\n"},
		{[]impl.Def{def(0, 1, add(a, num(1))), oldDef(1, 2, add(call(0, a), b))}, "A1=(a+1)\nB2~(A(a)+b)\n"},
		{[]impl.Def{def(0, 2, add(a, b)), oldDef(1, 1, call(0, a, num(1))), oldDef(2, 1, call(1, out(a)))}, "A2=(a+b)\nB1~A(a,1)\nC1~B(!a)\n"},
		{[]impl.Def{def(3, 1, call(3, a))}, "D1=D(a)\n"},
		{[]impl.Def{oldDef(2, 0, call(4)), def(4, 0, call(2))}, "C0~E()\nE0=C()\n"},
		{[]impl.Def{def(0, 0, let(7, num(99), variable(7)))}, "A0={h=99;h}\n"},
	}
	for _, c := range cases {
		checkLibraryReadBack(t, c.lib, c.text)
	}
}

func TestLibrariesAtTheLimitsAreReadBack(t *testing.T) {
	checkLibraryReadBack(t, eightFuns(), textOfLibrary(eightFuns()))
	var large []impl.Def
	for f := range impl.MaxFuns {
		large = append(large, oldDef(f, 3, let(7, num(1), wide(impl.MaxNodes-2))))
	}
	checkLibraryReadBack(t, large, textOfLibrary(large))
	deep := []impl.Def{def(0, 0, chain(impl.MaxDepth)), def(1, 0, chain(impl.MaxDepth))}
	checkLibraryReadBack(t, deep, textOfLibrary(deep))
	large[7].Body = let(7, num(1), wide(impl.MaxNodes-1))
	checkLibraryRefused(t, textOfLibrary(large))
	deep[1].Body = chain(impl.MaxDepth + 1)
	checkLibraryRefused(t, textOfLibrary(deep))
}

// Every text of an invalid library is refused, as far as it can be written.
func TestTextsOfInvalidLibraries(t *testing.T) {
	texts := []string{
		"A1=b\n", "A0=a\n", "A3=d\n", "A0={a=a;a}\n", "A0=({a=1;a}+a)\n",
		"B1=a\nA1=a\n", "A1=a\nA1=a\n", "A1=a\nA1~a\n", "A0=1\nA1=a\n", "A0=1\nC0=1\nB0=1\n",
		"A1=B()\n", "A0=B()\nB1=a\n", "A0=B(1)\nB0=1\n", "A1=A()\n", "A0=A(1)\n", "A2=A(a)\n", "A0=1\nB0=C()\n",
		"A0=1\nB0=1\nC0=1\nD0=1\nE0=1\nF0=1\nG0=1\nH0=1\nI0=1\n",
		"A0=1\nB0=1\nC0=1\nD0=1\nE0=1\nF0=1\nG0=1\nH0=1\nA0=1\n",
		"A0=1\nB0=1\nC0=1\nD0=1\nE0=1\nF0=1\nG0=1\nH0=1\nH0=1\n",
	}
	for _, text := range texts {
		checkLibraryRefused(t, text)
	}
}

func TestRefusedTextsOfLibraries(t *testing.T) {
	texts := []string{
		"\n", " ", "\n\n", "A0=1", "A0=1\r\n", "A0=1\n\n", "\nA0=1\n", "A0=1\nB0=1", "A0=1\n\nB0=1\n", "A0=1\n ", " A0=1\n", "A0=1 \n",
		"A\n", "A0\n", "A0=\n", "A0~\n", "A=1\n", "0=1\n", "A01\n", "=1\n", "A0=1;\n", "A0=1,\n", "A0=11 \n",
		"A4=a\n", "A9=a\n", "A-1=1\n", "A00=1\n", "A01=a\n", "A10=1\n", "A+1=a\n", "A =1\n", "A0 =1\n", "A0= 1\n", "A 0=1\n",
		"A1-a\n", "A1:a\n", "A1==a\n", "A1~~a\n", "A1~=a\n", "A1=~a\n", "A1?a\n", "A1a\n",
		"I1=a\n", "Z1=a\n", "a1=a\n", "@1=a\n", "AA1=a\n", "é1=a\n", "\x001=a\n", "\xff1=a\n",
		"A0=100\n", "A0=01\n", "A0=-1\n", "A1=i\n", "A1=(a)\n", "A1=(a+1\n", "A1=a+1\n", "A1=(a+\n1)\n", "A0=1\n1\n", "A0=1/B0=1/", "A0=1/\n",
		"A0=A(\n", "A0=A\n", "A0=1B0=1\n", "A0=1,B0=1\n", "A0=1\nB0=1\n\x00",
	}
	for _, text := range texts {
		checkLibraryRefused(t, text)
	}
}

// Of 10 letters, there are these texts: that without functions; with 5 letters, both
// functions with 0 or 1 arguments, either sign, and 0 or 1, or, with an argument, a; with
// 6 letters, all these with 10 or 11; and with 7 letters, both functions with a call of themselves.
func TestShortTextsOfLibraries(t *testing.T) {
	const letters = "A0B1=~a()\n"
	want := [7]int{1, 0, 0, 0, 0, 2*2*2*2 + 2*2, 2 * 2 * 2 * 2}
	var accepted [7]int
	var try func(text string)
	try = func(text string) {
		if checkLibraryRefusedOrReadBack(t, text) {
			accepted[len(text)]++
		}
		for i := 0; i < len(letters) && len(text) < 6; i++ {
			try(text + letters[i:i+1])
		}
	}
	try("")
	if accepted != want {
		t.Errorf("%v texts accepted, want %v", accepted, want)
	}
}

func TestChangedTextsOfLibraries(t *testing.T) {
	for _, text := range []string{"A2=(a+b)\nB1~A(a,1)\nC1~B(!a)\n", "D0={a=!D();a}\nF3=[a?b:F(c,9,10)]\nG1~(a<D())\n"} {
		accepted := 0
		for i := range len(text) + 1 {
			if i < len(text) {
				checkLibraryRefusedOrReadBack(t, text[:i]+text[i+1:])
				checkLibraryRefusedOrReadBack(t, text[i:])
				checkLibraryRefusedOrReadBack(t, text[:i])
			}
			for c := range 256 {
				inserted := string([]byte{byte(c)})
				checkLibraryRefusedOrReadBack(t, text[:i]+inserted+text[i:])
				if i < len(text) && checkLibraryRefusedOrReadBack(t, text[:i]+inserted+text[i+1:]) {
					accepted++
				}
			}
		}
		if accepted <= len(text) {
			t.Errorf("only %d changes of %q accepted", accepted, text)
		}
	}
}

// Every valid library of two functions is read back.
func TestSmallLibrariesAreReadBack(t *testing.T) {
	for _, x := range bodies() {
		for _, y := range bodies() {
			for n := range 36 {
				lib := []impl.Def{def(0, n%3, x), def(1, n/3%3, y)}
				lib[0].Old, lib[1].Old = n/9%2 == 1, n/18 == 1
				text := textOfLibrary(lib)
				if impl.LibraryValid(lib) {
					checkLibraryReadBack(t, lib, text)
				} else {
					checkLibraryRefused(t, text)
				}
			}
		}
	}
}

func TestHugeTextsOfLibraries(t *testing.T) {
	for _, part := range []string{"A", "A0", "A0=", "A0=1\n", "A0=A()\n", "\n", "1", "A0=1", "A0=!", "A0~{"} {
		checkLibraryRefused(t, strings.Repeat(part, 1000000))
	}
	for _, part := range []string{"!", "(", "A(", "1", "0", "a", "(1+", "{a=1;"} {
		checkLibraryRefused(t, "A0="+strings.Repeat(part, 1000000))
	}
}

func TestParsedLibrariesAreNewMemory(t *testing.T) {
	const text = "A2=(a+b)\nB1~A(a,1)\nC1~{b=[a?1:2];B(!a)}\n"
	first, second := libraryOf(t, text), libraryOf(t, text)
	for i := range first {
		overwrite(first[i].Body)
		first[i].Name = 77
	}
	if textOfLibrary(second) != text {
		t.Errorf("a parsed library became %q", textOfLibrary(second))
	}
	// Within one result: an element behind one slice is no element of another one.
	for _, d := range second {
		growAll(d.Body)
	}
	if textOfLibrary(second) != text {
		t.Errorf("a grown library became %q", textOfLibrary(second))
	}
}
