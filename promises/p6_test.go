package promises

import (
	"fmt"
	"strings"
	"testing"

	"derive/api"
)

func wantStrata(t *testing.T, s string, want map[string]int) {
	t.Helper()
	p := compile(t, s)
	if len(p.Preds()) != len(want) {
		t.Errorf("P7: Preds of %q = %q, want %d names", s, p.Preds(), len(want))
	}
	for name, n := range want {
		if got, e := p.Stratum(name); got != n || e != api.OK {
			t.Errorf("P6: Stratum(%q) of %q = %d, %d, want %d", name, s, got, e, n)
		}
	}
}

func TestP6Strata(t *testing.T) {
	wantStrata(t, "", map[string]int{})
	wantStrata(t, "p.", map[string]int{"p": 0})
	wantStrata(t, "p :- q, r. q :- s. s :- p.", map[string]int{"p": 0, "q": 0, "r": 0, "s": 0})
	wantStrata(t, "p :- !q.", map[string]int{"p": 1, "q": 0})
	wantStrata(t, "p :- !q, !r, !s.", map[string]int{"p": 1, "q": 0, "r": 0, "s": 0})
	wantStrata(t, "p :- q. q :- !r. r :- s.", map[string]int{"p": 1, "q": 1, "r": 0, "s": 0})
	wantStrata(t, "p(X) :- r(X), !s(X). s(X) :- t(X), !u(X). r(a). r(b). r(c). t(a). t(b). u(b).", map[string]int{"p": 2, "r": 0, "s": 1, "t": 0, "u": 0})
	wantStrata(t, "a :- b. b :- a. c :- !a. a :- c1. c1 :- !d.", map[string]int{"a": 1, "b": 1, "c": 2, "c1": 1, "d": 0})
}

func TestP6TheGreatestOfAllClausesAndLiterals(t *testing.T) {
	base := "b :- !a. c :- !b. d :- !c. "
	wantStrata(t, base+"p :- c, d, b.", map[string]int{"a": 0, "b": 1, "c": 2, "d": 3, "p": 3})
	wantStrata(t, base+"p :- d, !c.", map[string]int{"a": 0, "b": 1, "c": 2, "d": 3, "p": 3})
	wantStrata(t, base+"p :- !d, c.", map[string]int{"a": 0, "b": 1, "c": 2, "d": 3, "p": 4})
	wantStrata(t, base+"p :- !c, d.", map[string]int{"a": 0, "b": 1, "c": 2, "d": 3, "p": 3})
	wantStrata(t, base+"p :- d. p :- a. p.", map[string]int{"a": 0, "b": 1, "c": 2, "d": 3, "p": 3})
	wantStrata(t, "p. p :- a. p :- d. "+base, map[string]int{"a": 0, "b": 1, "c": 2, "d": 3, "p": 3})
}

func TestP6FactsRaiseNothing(t *testing.T) {
	wantStrata(t, "p :- !q. p. q. r :- !p. r.", map[string]int{"p": 1, "q": 0, "r": 2})
}

// chain is a text in which a02 hangs on a01's negation and so on, and how high the last comes.
func chain(rising bool) (string, int) {
	var links []string
	size := 0
	for n := 1; size+10 <= api.MaxText; n++ {
		link := fmt.Sprintf("b%02d:-!b%02d.", n, n-1)
		if size+len(link) > api.MaxText {
			break
		}
		size += len(link)
		if rising {
			links = append(links, link)
		} else {
			links = append([]string{link}, links...)
		}
	}
	return strings.Join(links, ""), len(links)
}

func TestP6LongChains(t *testing.T) {
	for _, rising := range []bool{true, false} {
		s, n := chain(rising)
		want := map[string]int{}
		for i := 0; i <= n; i++ {
			want[fmt.Sprintf("b%02d", i)] = i
		}
		wantStrata(t, s, want)
	}
}

func TestP6LongRings(t *testing.T) {
	for n := 1; n <= 26; n++ {
		plain, negated := "", ""
		for i := 0; i < n; i++ {
			head, body := 'a'+rune(i), 'a'+rune((i+1)%n)
			plain += fmt.Sprintf("%c:-%c.", head, body)
			if i == n/2 {
				negated += fmt.Sprintf("%c:-!%c.", head, body)
			} else {
				negated += fmt.Sprintf("%c:-%c.", head, body)
			}
		}
		wantError(t, negated, api.ErrStrata)
		wantError(t, plain, api.OK)
		p := compile(t, plain+"zz:-!a.")
		for _, name := range p.Preds() {
			want := 0
			if name == "zz" {
				want = 1
			}
			if got, e := p.Stratum(name); got != want || e != api.OK {
				t.Errorf("P6: Stratum(%q) of a ring of %d = %d, %d, want %d", name, n, got, e, want)
			}
		}
	}
}
