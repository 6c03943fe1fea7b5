package promises

import (
	"strings"
	"testing"

	"derive/api"
)

func TestP5Long(t *testing.T) {
	blanks := strings.Repeat(" ", api.MaxText)
	wantErrors(t, api.OK, blanks, blanks[5:]+"p(a).", "p(a)."+blanks[5:], strings.Repeat("p(a).", 100), strings.Repeat("\n", 500))
	wantErrors(t, api.ErrLong, blanks+" ", blanks[4:]+"p(a).", "p(a)."+blanks[4:], strings.Repeat("p(a).", 100)+"\n", strings.Repeat("p(a).", 101))
	wantErrors(t, api.ErrLong, strings.Repeat("#", 501), strings.Repeat("(", 501), strings.Repeat("a", 501))
	wantErrors(t, api.ErrLex, strings.Repeat("#", 500), strings.Repeat("a", 500))
	// Bytes count, not characters: 250 and 251 characters of two bytes.
	wantError(t, strings.Repeat("é", 250), api.ErrLex)
	wantError(t, strings.Repeat("é", 251), api.ErrLong)
}

func TestP5Lex(t *testing.T) {
	wantErrors(t, api.ErrLex, "p(a;b).", "p(toolong).", "p(a_b).", "p(é).", "p( #", "p(a)) #", "#", "p.#", "#p.", "p(\"a\").", "p(a'b).", "% p.", "p(-1).", "p(1/2).", "p(a@).", "p[a].", "p(`).", "p({}).", "p(a). q(b) ;")
}

func TestP5ManyTerms(t *testing.T) {
	wantErrors(t, api.OK, "p(a,b,c).", "p :- q(a,b,c).", "p :- !q(a,b,c).", "p(X,X,X) :- q(X,X,X), !r(X,X,X).")
	wantErrors(t, api.ErrMany, "p(a,b,c,d).", "p(a,a,a,a).", "p(a,b,c,d) :- q.", "p :- q(a,b,c,d).", "p :- q, r(a,b,c,d).", "p :- !q(a,b,c,d).", "p :- q, !r(1,2,3,4).",
		"p. q. r(a,b,c,d).", "p(a,b,c,d,e).", "p(X,X,X,X) :- q(X).", "p(X) :- q(X,X,X,X).", "p("+strings.Repeat("a,", 200)+"a).")
}

func TestP5ManyLiterals(t *testing.T) {
	wantErrors(t, api.OK, "p :- a,b,c,d,e,f.", "p :- !a,!b,!c,!d,!e,!f.", "p :- q,q,q,q,q,q.", "p :- a,b,c,d,e,f. p :- a,b,c,d,e,f.")
	wantErrors(t, api.ErrMany, "p :- a,b,c,d,e,f,g.", "p :- a,b,c,d,e,f,!g.", "p :- !a,!b,!c,!d,!e,!f,!g.", "p :- q,q,q,q,q,q,q.", "p. p :- a,b,c,d,e,f,g. p.", "p :- "+strings.Repeat("q,", 200)+"q.")
}

func TestP5ManyVariables(t *testing.T) {
	wantErrors(t, api.OK, "p :- q(A,B,C), r(C,D,E).", "p(A,B,C) :- q(A,B,C), r(D,E), !s(A,B,C).", "p(E) :- q(A,B,C), r(A,D,E), s(E,D,C), t(B,B,B).",
		"p :- q(A,B,C), r(D,E,k).", "p :- q(A,B,C), r(D,E). p :- q(F,G,H), r(I,J).", "p :- q(a,b,c), r(d,e,f).", "p :- q(A,A1,A2), r(AA,Aa).")
	wantErrors(t, api.ErrMany, "p :- q(A,B,C), r(D,E,F).", "p(F) :- q(A,B,C), r(D,E).", "p :- q(A,B,C), r(D,E), !s(F).", "p(A,B,C) :- !q(D,E,F).", "p(A,B,C) :- q(D,E), !r(F).",
		"p. q :- a(A), b(B), c(C), d(D), e(E), f(F).", "p :- q(A,A1,A2), r(AA,Aa,AB).", "p(A,B,C) :- q(D,E,F), r(A,B,C).")
}

func TestP5Arity(t *testing.T) {
	wantErrors(t, api.ErrArity, "p(a). p(a,b).", "p. p(a).", "p(a). p.", "p. q :- !p(a).", "p :- q(X), q.", "p :- p(a).", "p(a) :- !p.", "q :- p(a). r :- p(a,b).", "q :- !p(a). r :- !p(a,b,c).", "q :- !p, p(a).",
		"p(a,b). p(a,b). q. p(a,b,c).", "z. a. m(1). z(1).")
	wantErrors(t, api.OK, "p(a). p(b).", "p. q :- p, !r. r.", "p(a). q(a,b). r(a,b,c). s.", "p(a). p1(a,b). pp(a,b,c).", "p(p,p). q(p).", "q(p) :- r(p, p).")
}

func TestP5Safe(t *testing.T) {
	wantErrors(t, api.ErrSafe, "p(X).", "p(a,X).", "p(a). q. r(X).", "p(X) :- q(Y).", "p(X) :- q.", "p(X) :- !q(X).", "p :- !q(X).", "p :- q(X), !r(X,Y).", "p :- q(X), !r(Y).", "p(X,Y) :- q(X), !r(Y).",
		"p(X) :- q(x).", "p(X) :- q(Y). q(X) :- p(X).", "q(X) :- p(X). p(X).", "p(X) :- q(X1), r(XX).", "p(Y) :- q(X), !r(X), !s(Y).", "p(X) :- !q(X), !r(X).", "p(a,b,X) :- q(a,b).", "p(a1,B2,12).")
	wantErrors(t, api.OK, "p(X) :- !r(X), q(X).", "p(X) :- q(Y), r(X).", "p(X) :- q(a, b, X).", "p :- q(X), !r(X).", "p :- q(X).", "p(X) :- q(X), !r(X, X, a).", "p(X) :- p(X).", "p(a) :- !q(b).")
}

func TestP5Strata(t *testing.T) {
	wantErrors(t, api.ErrStrata, "p :- !p.", "p(X) :- q(X), !p(X).", "w(X) :- m(X,Y), !w(Y).", "a :- !b. b :- !a.", "a :- b. b :- !a.", "a :- !b. b :- a.", "a :- b. b :- c. c :- !a.", "a :- b. b :- a, !c. c :- d. d :- b.",
		"p. q :- r. r :- !q. p :- q.", "a :- b, !b. b :- a.", "z :- !z. a.", "a. z :- !z.", "p :- q, p, !p.", "a :- !b. b :- !c. c :- !d. d :- !a.")
	wantErrors(t, api.OK, "a :- b. b :- a. c :- !a.", "p :- p.", "p :- !q.", "p :- !q, !q. r :- !p, !q.", "a :- b, c. b :- a, c. c :- a, !d.", "p :- q, !q.", "p(X) :- p(X), !q(X).")
}

// faulty has for each error of P5 but ErrLong a text that has this one alone; they have no predicate in common.
var faulty = []struct {
	e api.Errno
	s string
}{
	{api.ErrLex, "lx(a;b)."},
	{api.ErrParse, "pa :- ."},
	{api.ErrMany, "ma(a,b,c,d)."},
	{api.ErrArity, "ar. ar(a)."},
	{api.ErrSafe, "sa(X)."},
	{api.ErrStrata, "st :- !st."},
}

func TestP5TheFirstErrorOfTwo(t *testing.T) {
	for i, a := range faulty {
		wantError(t, a.s, a.e)
		wantError(t, "good. "+a.s+" good.", a.e)
		wantError(t, a.s+strings.Repeat(" ", api.MaxText-len(a.s)), a.e)
		wantError(t, a.s+strings.Repeat(" ", api.MaxText-len(a.s)+1), api.ErrLong)
		for _, b := range faulty[i+1:] {
			wantErrors(t, a.e, a.s+" "+b.s, b.s+" "+a.s, b.s+" good. "+a.s+" good. "+b.s)
		}
	}
}

func TestP5TheFirstErrorOfMany(t *testing.T) {
	forth, back := "", ""
	for i := len(faulty) - 1; i >= 0; i-- {
		forth += faulty[i].s
		back = faulty[i].s + back
		wantErrors(t, faulty[i].e, forth, back)
	}
}

func TestP5TheFirstErrorOfOneClause(t *testing.T) {
	wantErrors(t, api.ErrLex, "p(toolong", "p(a,b,c,d) :- q(;).", "p(X;)")
	wantErrors(t, api.ErrParse, "p(a,b,c,d)", "p(X)", "p :- !p", "p(a,b,c,d). q(X). p(a)")
	wantErrors(t, api.ErrMany, "p(A,B,C,D).", "p :- !p, p(a,b,c,d).", "p(a). p(a,b,c,d).", "q(X). r. r(a). p(a,b,c,d).", "p(A,B,C) :- !q(D,E,F).")
	wantErrors(t, api.ErrArity, "p(X) :- !p.", "p(X) :- p(a, b).", "s :- !s. q(X). r. r(a).")
	wantErrors(t, api.ErrSafe, "p(X) :- !p(X).", "p(X) :- q, !p(a).", "s :- !s. q(X).", "p(X) :- q(Y), !p(Y).")
}
