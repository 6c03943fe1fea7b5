package check

import (
	"testing"

	"derive/clauses"
	"derive/words"
)

func parse(t *testing.T, s string) []clauses.Clause {
	t.Helper()
	found, ok := words.Split(s)
	if !ok {
		t.Fatalf("Split(%q) is false", s)
	}
	list, ok := clauses.Parse(found)
	if !ok {
		t.Fatalf("Parse(%q) is false", s)
	}
	return list
}

func TestMany(t *testing.T) {
	for _, s := range []string{"", "p(a,b,c).", "p :- a,b,c,d,e,!f.", "p(A) :- q(A,B,C), !r(C,D,E)."} {
		if Many(parse(t, s)) {
			t.Errorf("%q has not too much", s)
		}
	}
	for _, s := range []string{"p. p(a,b,c,d).", "p. q :- !p(a,b,c,d).", "p :- a,b,c,d,e,f,!g. p.", "p(F) :- q(A,B,C), !r(C,D,E)."} {
		if !Many(parse(t, s)) {
			t.Errorf("%q has too much", s)
		}
	}
}

func TestSafe(t *testing.T) {
	for _, s := range []string{"", "p(a).", "p(X) :- !q(X), r(X).", "p :- q(X)."} {
		if !Safe(parse(t, s)) {
			t.Errorf("%q is safe", s)
		}
	}
	for _, s := range []string{"p. p(X).", "p(X) :- q(Y). p.", "p(X) :- !q(X).", "p(X) :- q(X), !r(Y)."} {
		if Safe(parse(t, s)) {
			t.Errorf("%q is not safe", s)
		}
	}
}
