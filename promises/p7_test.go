package promises

import (
	"math"
	"testing"

	"derive/api"
)

func TestP7Preds(t *testing.T) {
	for _, c := range []struct {
		s    string
		want []string
	}{
		{"", nil},
		{"b. a. b. a.", []string{"a", "b"}},
		{"z :- !y, x. w(v).", []string{"w", "x", "y", "z"}},
		{"q. aa. a1. aB. a. ab. b. a10. a9. aZ. a0.", []string{"a", "a0", "a1", "a10", "a9", "aB", "aZ", "aa", "ab", "b", "q"}},
		{"p(X) :- p(X), !q(X, p). p(q).", []string{"p", "q"}},
		{"c :- b, !a. f :- e, !d.", []string{"a", "b", "c", "d", "e", "f"}},
	} {
		if got := compile(t, c.s).Preds(); !sameStrings(got, c.want) {
			t.Errorf("P7: Preds of %q = %q, want %q", c.s, got, c.want)
		}
	}
}

func TestP7Stratum(t *testing.T) {
	p := compile(t, "pq(a, X) :- r(X, b), !s. m :- !pq(a, a).")
	for _, c := range []struct {
		name string
		want int
	}{{"pq", 1}, {"r", 0}, {"s", 0}, {"m", 2}} {
		if n, e := p.Stratum(c.name); n != c.want || e != api.OK {
			t.Errorf("P7: Stratum(%q) = %d, %d, want %d", c.name, n, e, c.want)
		}
	}
	for _, name := range []string{"", "a", "b", "X", "p", "q", "pqr", "PQ", "pq ", " pq", "!s", "pq(a, X)", "l", "t", "~", "pq\x00"} {
		if n, e := p.Stratum(name); n != 0 || e != api.ErrPred {
			t.Errorf("P7: Stratum(%q) = %d, %d, want 0, ErrPred", name, n, e)
		}
	}
}

func TestP7Clauses(t *testing.T) {
	for _, c := range []struct {
		s    string
		want int
	}{{"", 0}, {"p.", 1}, {"p. p. p.", 3}, {"p :- q, r, !s.", 1}, {"p :- q. q. p :- q.", 3}} {
		if n := compile(t, c.s).Clauses(); n != c.want {
			t.Errorf("P7: Clauses of %q = %d, want %d", c.s, n, c.want)
		}
	}
}

func TestP7Clause(t *testing.T) {
	p := compile(t, "q(10,010,a). p( X,k ):-!r( X ),s(X,Y),s(Y,X),!t. t. t.")
	want := [][]api.Lit{
		{{Pred: "q", Args: []string{"10", "010", "a"}}},
		{
			{Pred: "p", Args: []string{"X", "k"}},
			{Not: true, Pred: "r", Args: []string{"X"}},
			{Pred: "s", Args: []string{"X", "Y"}},
			{Pred: "s", Args: []string{"Y", "X"}},
			{Not: true, Pred: "t"},
		},
		{{Pred: "t"}},
		{{Pred: "t"}},
	}
	if p.Clauses() != len(want) {
		t.Fatalf("P7: Clauses = %d, want %d", p.Clauses(), len(want))
	}
	for i := range want {
		if l, e := p.Clause(i); e != api.OK || !sameLits(l, want[i]) {
			t.Errorf("P7: Clause(%d) = %v, %d, want %v", i, l, e, want[i])
		}
	}
}

func TestP7NoSuchClause(t *testing.T) {
	for _, s := range samples() {
		p := compile(t, s)
		for _, i := range []int{-1, p.Clauses(), p.Clauses() + 1, -2, math.MinInt, math.MaxInt, math.MinInt32, math.MaxInt32} {
			if l, e := p.Clause(i); l != nil || e != api.ErrPred {
				t.Errorf("P7: Clause(%d) of %q = %v, %d, want nil, ErrPred", i, s, l, e)
			}
			if v, e := p.Vars(i); v != nil || e != api.ErrPred {
				t.Errorf("P7: Vars(%d) of %q = %q, %d, want nil, ErrPred", i, s, v, e)
			}
		}
	}
}

func TestP7Vars(t *testing.T) {
	for _, c := range []struct {
		s    string
		want []string
	}{
		{"p.", nil},
		{"p(a, 1).", nil},
		{"p(a) :- q(b), !r(c).", nil},
		{"p( X ):-q(X,1),!r.", []string{"X"}},
		{"p(Y) :- !q(X), r(X, Y), s(Y, Z, X).", []string{"X", "Y", "Z"}},
		{"p(A, B) :- q(B), r(A).", []string{"B", "A"}},
		{"p(A) :- q(B, B, B), !r(A, C), s(B, A), t(k, C).", []string{"B", "A", "C"}},
		{"p :- q(E, D), r(C, B), s(A).", []string{"E", "D", "C", "B", "A"}},
		{"p :- q(X, Xx, X1), r(XX, Xx).", []string{"X", "Xx", "X1", "XX"}},
		{"p :- q(x, X).", []string{"X"}},
	} {
		if v, e := compile(t, c.s).Vars(0); e != api.OK || !sameStrings(v, c.want) {
			t.Errorf("P7: Vars(0) of %q = %q, %d, want %q", c.s, v, e, c.want)
		}
	}
	p := compile(t, "p(X) :- q(X, Y). p(Y) :- q(Y, X). p(a).")
	for i, want := range [][]string{{"X", "Y"}, {"Y", "X"}, nil} {
		if v, e := p.Vars(i); e != api.OK || !sameStrings(v, want) {
			t.Errorf("P7: Vars(%d) = %q, %d, want %q", i, v, e, want)
		}
	}
}

func TestP7Text(t *testing.T) {
	for _, c := range []struct{ s, want string }{
		{"", ""},
		{" \n", ""},
		{"p.", "p.\n"},
		{"p.p.q.", "p.\np.\nq.\n"},
		{"p:-q.", "p :- q.\n"},
		{"p:-!q.", "p :- !q.\n"},
		{"p :- ! q , r .", "p :- !q, r.\n"},
		{"p(a,b,c).", "p(a, b, c).\n"},
		{"p( X ):-q(X,1),!r.", "p(X) :- q(X, 1), !r.\n"},
		{"zz(b, 10).p( Y ):-!q(X),\nr(X,Y),s(Y,B,X).q(a).none.", "zz(b, 10).\np(Y) :- !q(X), r(X, Y), s(Y, B, X).\nq(a).\nnone.\n"},
		{"p\n(\n007\n,\n7\n)\n.\n", "p(007, 7).\n"},
	} {
		if got := compile(t, c.s).Text(); got != c.want {
			t.Errorf("P7: Text of %q = %q, want %q", c.s, got, c.want)
		}
	}
}

func TestP7TextOfText(t *testing.T) {
	for _, s := range samples() {
		once := compile(t, s).Text()
		if twice := compile(t, once).Text(); twice != once {
			t.Errorf("P7: Text of %q = %q, of that %q", s, once, twice)
		}
	}
}

func TestP7TextLongerThanATextMayBe(t *testing.T) {
	s, want := "", ""
	for len(s)+5 <= api.MaxText {
		s += "p:-q."
		want += "p :- q.\n"
	}
	if got := compile(t, s).Text(); got != want {
		t.Errorf("P7: Text of %q = %q", s, got)
	}
}
