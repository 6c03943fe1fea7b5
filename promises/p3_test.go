package promises

import (
	"strings"
	"testing"

	"derive/api"
	"derive/derive"
)

func isLetterOrDigit(c byte) bool {
	return strings.IndexByte("abcdefghijklmnopqrstuvwxyzABCDEFGHIJKLMNOPQRSTUVWXYZ0123456789", c) >= 0
}

func TestP3EveryByte(t *testing.T) {
	for c := 0; c < 256; c++ {
		s := string([]byte{byte(c)})
		want := api.ErrLex
		switch {
		case s == " " || s == "\n":
			want = api.OK
		case isLetterOrDigit(byte(c)) || strings.Contains("(),.!", s):
			want = api.ErrParse
		}
		wantError(t, s, want)
		wantError(t, "p."+s, want)
		if want == api.ErrLex {
			wantErrors(t, want, "p"+s+".", "p("+s+").", "p(a"+s+").", "p."+s+" ", s+"p.")
		}
	}
}

func TestP3EveryByteWithinAName(t *testing.T) {
	for c := 0; c < 256; c++ {
		if !isLetterOrDigit(byte(c)) {
			continue
		}
		name := "p" + string([]byte{byte(c)}) + "q"
		p := compile(t, name+"("+name+") :- r(V"+name+").")
		l, _ := p.Clause(0)
		v, _ := p.Vars(0)
		if len(l) != 2 || l[0].Pred != name || !sameStrings(l[0].Args, []string{name}) || !sameStrings(v, []string{"V" + name}) {
			t.Errorf("P3: of the name %q: %v, %q", name, l, v)
		}
	}
}

func TestP3Beginnings(t *testing.T) {
	for c := 0; c < 256; c++ {
		first := string([]byte{byte(c)})
		small, capital, digit := c >= 'a' && c <= 'z', c >= 'A' && c <= 'Z', c >= '0' && c <= '9'
		want := api.ErrParse
		switch {
		case small || digit:
			want = api.OK
		case capital:
			want = api.ErrSafe
		case !isLetterOrDigit(byte(c)) && !strings.Contains(" \n(),.!", first):
			want = api.ErrLex
		}
		wantError(t, "p("+first+").", want)
		if small {
			wantError(t, first+".", api.OK)
		}
		if capital || digit {
			wantErrors(t, api.ErrParse, first+".", first+"(a).", "p :- "+first+".")
		}
	}
}

func TestP3Blanks(t *testing.T) {
	want := "p(X, a) :- q(X, 10), !r(X), s.\n"
	words := []string{"p", "(", "X", ",", "a", ")", ":-", "q", "(", "X", ",", "10", ")", ",", "!", "r", "(", "X", ")", ",", "s", "."}
	for _, blank := range []string{"", " ", "\n", "\n \n", "   "} {
		s := blank + strings.Join(words, blank) + blank
		if got := compile(t, s).Text(); got != want {
			t.Errorf("P3: Text of %q = %q, want %q", s, got, want)
		}
	}
	for i := range words {
		s := strings.Join(words[:i], "") + "\n" + strings.Join(words[i:], "")
		if got := compile(t, s).Text(); got != want {
			t.Errorf("P3: Text of %q = %q, want %q", s, got, want)
		}
	}
	wantErrors(t, api.ErrLex, "p\t.", "p.\r\n", "p.\v", "p.\f", "p.\x00", "p.\u00a0", "p.\u0085")
}

func TestP3BlanksPartWords(t *testing.T) {
	wantErrors(t, api.ErrParse, "p q.", "p(a b).", "p(1 0).", "p(1 a).", "p :- q(X y).", "p(a\nb).")
	wantErrors(t, api.ErrLex, "p : - q.", "p :\n- q.")
}

func TestP3LongestWords(t *testing.T) {
	wantErrors(t, api.ErrParse, "p(1a).", "p(1A).", "p(12ab).", "p(123456a).", "p(123456abcdef).", "1p.", "p(1a1).", "p( X ):-q(X,1a),!r.")
	wantErrors(t, api.ErrLex, "p(1234567a).", "p(1abcdefg).", "p(123456abcdefg).")
	p := compile(t, "p1a2B(a1b2, 0012).")
	want := []api.Lit{{Pred: "p1a2B", Args: []string{"a1b2", "0012"}}}
	if l, e := p.Clause(0); e != api.OK || !sameLits(l, want) {
		t.Errorf("P3: %v, %d, want %v", l, e, want)
	}
}

func TestP3TheSignOfRules(t *testing.T) {
	wantErrors(t, api.OK, "p:-q.", "p :-q.", "p:- q.", "p:-!q.")
	wantErrors(t, api.ErrLex, "p:q.", "p-q.", "p:", "p-", ":", "-", "p::-q.", "p:-:q.", "p:--q.", "p-:q.", "p:- -q.", "p: :-q.", "p:-q.:")
	wantErrors(t, api.ErrParse, ":-", "p:-", "p:-:-q.", ":-q.", "p:-q:-r.")
}

func TestP3NamesOfSixAndSeven(t *testing.T) {
	for _, first := range []string{"a", "A", "1"} {
		for n := 1; n <= 9; n++ {
			word := strings.Repeat(first, n)
			s := "p(b) :- q(" + word + ")."
			p, e := derive.Compile(s)
			if n > api.MaxName {
				wantErrors(t, api.ErrLex, s, word, word+" (")
				continue
			}
			if e != api.OK || p == nil {
				t.Errorf("P5: Compile(%q) = %d, want a program", s, e)
			} else if l, _ := p.Clause(0); len(l) != 2 || !sameStrings(l[1].Args, []string{word}) {
				t.Errorf("P3: Clause(0) of %q = %v", s, l)
			}
		}
	}
	wantErrors(t, api.OK, "abcdef.", "aBCDEF(a23456) :- q(A23456), r(000000).")
	wantErrors(t, api.ErrLex, "abcdefg.", "p :- abcdefg.", "p :- !abcdefg.", "p(X) :- q(Xabcdef).", "p(X) :- q(X234567).", "p(a234567).", "p(0000000).", "abcdefg")
}
