package promises

import (
	"testing"

	"derive/api"
)

func TestP4Programs(t *testing.T) {
	wantErrors(t, api.OK,
		"", " ", "\n", "p.", "p.q.", "p.p.p.", "p(a).", "p(1).", "p(a,1,b).", "p:-q.", "p:-!q.", "p:-q,r.", "p:-!q,!r.", "p:-q,!r,s.",
		"p(X):-q(X).", "p(a):-q.", "p:-q(1).", "p :- q(X). r :- q(a).", "p (a) .", "p(p). q(p, p) :- p(q).", "p:-p.", "p:-q(X,X,X).")
}

func TestP4NoPrograms(t *testing.T) {
	wantErrors(t, api.ErrParse,
		"p", "p(a)", "p :- q", "p :-", "p(", "p(a", "p(a,", "p. q", "p.q(",
		".", "p..", ". p.", ",", "(", ")", "!", ":-", "(p).", "p,q.", "p, q :- r.",
		"p().", "p( ).", "p :- q().", "p(,).", "p(a,).", "p(,a).", "p(a,,b).", "p(a)).", "p((a)).", "p(a)(b).", "p(a b).", "p(a.b).",
		"p(q(a)).", "p(!a).", "p(:-).", "p)a(.", "p a.",
		"p :- .", "p :- q,.", "p :- ,q.", "p :- q,,r.", "p :- q r.", "p :- q. :- r.", ":- q.", "p :- q :- r.", "p :- (q).",
		"!p.", "!p :- q.", "p :- !.", "p :- !!q.", "p :- q!.", "p !q.", "p! :- q.", "p :- q, !.",
		"X.", "X(a).", "P(a) :- q(a).", "p :- X.", "p :- !X.", "p :- X(a).", "1.", "1(a).", "p :- 1.", "p :- !1.", "p :- q, 1(a).")
}

func TestP4TheEmptyText(t *testing.T) {
	for _, s := range []string{"", " ", "\n", " \n \n "} {
		p := compile(t, s)
		if p.Clauses() != 0 || len(p.Preds()) != 0 || p.Text() != "" {
			t.Errorf("P4: of %q: %d clauses, predicates %q, text %q", s, p.Clauses(), p.Preds(), p.Text())
		}
		if c, e := p.Clause(0); c != nil || e != api.ErrPred {
			t.Errorf("P7: of %q: Clause(0) = %v, %d", s, c, e)
		}
		if v, e := p.Vars(0); v != nil || e != api.ErrPred {
			t.Errorf("P7: of %q: Vars(0) = %q, %d", s, v, e)
		}
		if n, e := p.Stratum(""); n != 0 || e != api.ErrPred {
			t.Errorf("P7: of %q: Stratum of the empty name = %d, %d", s, n, e)
		}
	}
}
