package tests

import (
	"math/rand"
	"slices"
	"testing"

	"loop.example/apimigrator/impl"
)

func chainOf(t *testing.T, texts ...string) [][]impl.Def {
	t.Helper()
	var chain [][]impl.Def
	for _, text := range texts {
		chain = append(chain, libraryOf(t, text))
	}
	return chain
}

func TestChains(t *testing.T) {
	const one, retired, other = "A1=a\n", "A1~a\n", "A2=a\n"
	for _, c := range []struct {
		texts []string
		want  bool
	}{
		{nil, false},
		// One version.
		{[]string{""}, true}, {[]string{one}, true}, {[]string{retired}, true}, {[]string{"A1=B(a)\nB1~A(a)\n"}, true},
		// Two versions, with each kind of changes.
		{[]string{one, one}, true}, {[]string{"", ""}, true},
		{[]string{"", one}, true}, {[]string{"", retired}, true},
		{[]string{one, ""}, false}, {[]string{retired, ""}, true},
		{[]string{one, retired}, true}, {[]string{retired, one}, true},
		{[]string{one, other}, false}, {[]string{retired, other}, false}, {[]string{retired, "A2~a\n"}, false}, {[]string{one, "A2~a\n"}, false}, {[]string{one, "A0=1\n"}, false},
		{[]string{one, "A1=!a\n"}, true}, {[]string{retired, "A1~!a\n"}, true}, {[]string{one, "A1~!a\n"}, true},
		// One function of more, and in each place.
		{[]string{"A1=a\nB1~A(a)\nC0=7\n", "A1=(a+0)\nC0~7\nD2=A(b)\n"}, true},
		{[]string{"A1=(a+0)\nC0~7\nD2=A(b)\n", "A1=a\nB1~A(a)\nC0=7\n"}, false},
		{[]string{"A0=1\nB0~1\nC0=1\n", "A0=1\nC0=1\n"}, true}, {[]string{"A0~1\nB0=1\nC0~1\n", "A0~1\nC0~1\n"}, false},
		{[]string{"A0~1\nB0=1\nC0~1\n", "B0=1\n"}, true}, {[]string{"A0~1\nB0=1\nC0~1\n", "C0~1\n"}, false}, {[]string{"A0~1\nB0=1\nC0~1\n", ""}, false},
		{[]string{"A0~1\nB0~1\nC0~1\n", ""}, true}, {[]string{"A0=1\nH1=a\n", "A0=1\nH2=a\n"}, false}, {[]string{"A0=1\nH1~a\n", "A0=2\n"}, true},
		// Three and more: it is the version before that counts.
		{[]string{one, retired, ""}, true}, {[]string{one, retired, one, ""}, false}, {[]string{retired, one, ""}, false}, {[]string{one, retired, one, retired, ""}, true},
		{[]string{retired, "", other}, true}, {[]string{one, retired, "", other, "A2~b\n", ""}, true}, {[]string{one, retired, "", other, ""}, false},
		{[]string{one, one, other}, false}, {[]string{one, other, other}, false}, {[]string{one, one, one, one, one, other}, false}, {[]string{one, one, one, one, one, ""}, false},
		{[]string{one, other, one}, false}, {[]string{"", one, ""}, false},
		// Six versions, and more.
		{[]string{"", "", "", "", "", ""}, true}, {[]string{"", "", "", "", "", "", ""}, false},
		{[]string{one, one, one, one, one, one}, true}, {[]string{one, one, one, one, one, one, one}, false},
		{[]string{one, retired, "", one, retired, ""}, true}, {[]string{one, retired, "", one, retired, "", one}, false},
	} {
		if got := impl.ChainValid(chainOf(t, c.texts...)); got != c.want {
			t.Errorf("ChainValid of %q = %v", c.texts, got)
		}
	}
	if impl.ChainValid([][]impl.Def{}) || impl.ChainValid(make([][]impl.Def, 100000)) || !impl.ChainValid(make([][]impl.Def, 6)) || !impl.ChainValid([][]impl.Def{nil, {}}) {
		t.Error("ChainValid of versions without functions is wrong")
	}
}

func TestRandomChains(t *testing.T) {
	r := rand.New(rand.NewSource(34))
	count := map[bool]int{}
	for range 4000 {
		a, _, _ := versionsCase(r)
		chain := [][]impl.Def{a}
		for len(chain) < 1+r.Intn(4) {
			if b := nextVersion(r, chain[len(chain)-1]); impl.LibraryValid(b) {
				chain = append(chain, b)
			}
		}
		want := chainByRule(chain)
		if impl.ChainValid(chain) != want {
			t.Fatalf("ChainValid of %v = %v", chain, !want)
		}
		if len(chain) > 1 {
			count[want]++
		}
	}
	if count[true] < 300 || count[false] < 300 {
		t.Errorf("of the chains, %d are valid, and %d are not", count[true], count[false])
	}
}

// A client of a version of a valid chain that calls nothing out of use is one of the next version.
func TestClientsOfValidChains(t *testing.T) {
	r := rand.New(rand.NewSource(35))
	calling := 0
	for range 12000 {
		a, b, e := versionsCase(r)
		if !impl.ChainValid([][]impl.Def{a, b}) || len(impl.OldCalls(a, e)) > 0 {
			continue
		}
		if !impl.FitsBoth(a, b, e) {
			t.Fatalf("from\n%sto\n%s%s does not fit", textOfLibrary(a), textOfLibrary(b), textOf(e))
		}
		if len(impl.CallsOf(e)) > 0 {
			calling++
		}
	}
	if calling < 500 {
		t.Errorf("there are only %d clients that call something", calling)
	}
}

// A version that is not valid is found at each place, also if nothing else is wrong.
func TestChainsOfInvalidVersions(t *testing.T) {
	for what, lib := range allInvalidLibraries() {
		for n := 1; n <= impl.MaxVersions; n++ {
			for i := range n {
				if impl.ChainValid(slices.Insert(make([][]impl.Def, n-1), i, lib)) {
					t.Errorf("ChainValid of %d versions is true with one at %d: %s", n, i, what)
				}
			}
			if impl.ChainValid(slices.Repeat([][]impl.Def{lib}, n)) {
				t.Errorf("ChainValid of %d versions is true with: %s", n, what)
			}
		}
	}
}
