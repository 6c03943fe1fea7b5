package clauses

import (
	"testing"

	"derive/words"
)

func parse(t *testing.T, s string) ([]Clause, bool) {
	t.Helper()
	list, ok := words.Split(s)
	if !ok {
		t.Fatalf("Split(%q) is false", s)
	}
	return Parse(list)
}

func TestParse(t *testing.T) {
	list, ok := parse(t, "p. q(X,a):-r(X),!s.")
	if !ok || len(list) != 2 {
		t.Fatalf("%v, %v", list, ok)
	}
	if c := list[0]; c.Head.Pred != "p" || len(c.Head.Args) != 0 || len(c.Body) != 0 {
		t.Errorf("the fact is %v", c)
	}
	if c := list[1]; len(c.Head.Args) != 2 || len(c.Body) != 2 || c.Head.Not || c.Body[0].Not || !c.Body[1].Not {
		t.Errorf("the rule is %v", c)
	}
	for i, want := range []string{"p.", "q(X, a) :- r(X), !s."} {
		if s := list[i].Text(); s != want {
			t.Errorf("clause %d is written %q, want %q", i, s, want)
		}
	}
}

func TestParseBreaksOff(t *testing.T) {
	s := "p ( a , X ) :- q ( 1 ) , ! r ."
	for i := 1; i < len(s)-1; i++ {
		if s[i] == ' ' {
			if list, ok := parse(t, s[:i]); ok || list != nil {
				t.Errorf("Parse of %q = %v, %v", s[:i], list, ok)
			}
		}
	}
	if _, ok := parse(t, s); !ok {
		t.Errorf("Parse of %q is false", s)
	}
}

func TestVars(t *testing.T) {
	list, ok := parse(t, "p(A, B) :- !q(C, D), r(E, k, B), s(B).")
	if !ok || len(list) != 1 {
		t.Fatalf("%v, %v", list, ok)
	}
	plain, all := list[0].Plain(), list[0].All()
	if plain.Count() != 2 || all.Count() != 5 {
		t.Errorf("plain %v, all %v", plain, all)
	}
	if plain.Cover(list[0].Head) || plain.Cover(list[0].Body[0]) || !plain.Cover(list[0].Body[1]) || !all.Cover(list[0].Body[0]) {
		t.Errorf("what %v and %v cover", plain, all)
	}
	if n := plain.Names(); len(n) != 2 || n[0] != "E" || n[1] != "B" {
		t.Errorf("names %q", n)
	}
}

func TestIsVariable(t *testing.T) {
	for _, s := range []string{"A", "Z", "M1a"} {
		if !IsVariable(s) {
			t.Errorf("%q is a variable", s)
		}
	}
	for _, s := range []string{"", "a", "z", "0", "9A", "aB", "@", "["} {
		if IsVariable(s) {
			t.Errorf("%q is no variable", s)
		}
	}
}
