package promises

import (
	"testing"

	"derive/api"
	"derive/derive"
)

// spoil asks for every list and writes into all of it, and behind it.
func spoil(p *derive.Program) {
	spoilStrings(p.Preds())
	for i := 0; i < p.Clauses(); i++ {
		v, _ := p.Vars(i)
		spoilStrings(v)
		c, _ := p.Clause(i)
		for k := range c {
			spoilStrings(c[k].Args)
			c[k] = api.Lit{Not: !c[k].Not, Pred: "mine", Args: []string{"mine"}}
		}
		full := c[:cap(c)]
		for k := range full {
			full[k] = api.Lit{Pred: "mine"}
		}
	}
}

func spoilStrings(list []string) {
	full := list[:cap(list)]
	for i := range full {
		full[i] = "mine"
	}
}

func TestP2NothingHangsOnWhatTheCallerWrites(t *testing.T) {
	for _, s := range samples() {
		p := compile(t, s)
		before := told(p)
		for n := 0; n < 3; n++ {
			spoil(p)
			if after := told(p); after != before {
				t.Fatalf("P2: of %q:\n%s\nbehind what the caller wrote:\n%s", s, before, after)
			}
		}
	}
}

func TestP2NoSpareRoom(t *testing.T) {
	for _, s := range samples() {
		p := compile(t, s)
		if l := p.Preds(); cap(l) != len(l) {
			t.Errorf("P2: of %q: Preds has %d names and room for %d", s, len(l), cap(l))
		}
		for i := 0; i < p.Clauses(); i++ {
			if v, _ := p.Vars(i); cap(v) != len(v) {
				t.Errorf("P2: of %q: Vars(%d) has %d names and room for %d", s, i, len(v), cap(v))
			}
			c, _ := p.Clause(i)
			if cap(c) != len(c) {
				t.Errorf("P2: of %q: Clause(%d) has %d literals and room for %d", s, i, len(c), cap(c))
			}
			for k, l := range c {
				if cap(l.Args) != len(l.Args) {
					t.Errorf("P2: of %q: literal %d of Clause(%d) has %d terms and room for %d", s, k, i, len(l.Args), cap(l.Args))
				}
			}
		}
	}
}

func TestP2NoSpareRoomAtAnyLength(t *testing.T) {
	s := ""
	for n := 0; n <= 26; n++ {
		p := compile(t, s)
		if l := p.Preds(); len(l) != n || cap(l) != n {
			t.Errorf("P2: Preds has %d names and room for %d, want %d", len(l), cap(l), n)
		}
		s += string([]byte{'a' + byte(n)}) + ".\n"
	}
	body := "q(A)"
	for n := 1; n <= api.MaxBody; n++ {
		p := compile(t, "p :- "+body+".")
		c, _ := p.Clause(0)
		v, _ := p.Vars(0)
		most := min(n, api.MaxVars)
		if len(c) != n+1 || cap(c) != n+1 || len(v) != most || cap(v) != most {
			t.Errorf("P2: Clause(0): %d of %d, want %d; Vars(0): %d of %d, want %d", len(c), cap(c), n+1, len(v), cap(v), most)
		}
		body += ", q(" + string([]byte{'A' + byte(n%api.MaxVars)}) + ")"
	}
}

func TestP2ListsOfOneAnswerShareNothing(t *testing.T) {
	p := compile(t, "p(X, a, X) :- p(X, a, X), p(X, a, X), !p1(X, a, X).")
	want, _ := p.Clause(0)
	for i := range want {
		c, _ := p.Clause(0)
		spoilStrings(c[i].Args)
		for k := range c {
			if k != i && !sameStrings(c[k].Args, want[k].Args) {
				t.Errorf("P2: to write into literal %d of Clause(0) makes literal %d %q", i, k, c[k].Args)
			}
		}
	}
}

func TestP2EarlierAnswersStay(t *testing.T) {
	p := compile(t, "p(Y, k) :- q(X), r(X, Y). s.")
	l := p.Preds()
	c, _ := p.Clause(0)
	v, _ := p.Vars(0)
	told(p)
	spoil(p)
	compile(t, "z(a).")
	if !sameStrings(l, []string{"p", "q", "r", "s"}) || !sameStrings(v, []string{"X", "Y"}) {
		t.Errorf("P2: lists that came out earlier are now %q, %q", l, v)
	}
	want := []api.Lit{{Pred: "p", Args: []string{"Y", "k"}}, {Pred: "q", Args: []string{"X"}}, {Pred: "r", Args: []string{"X", "Y"}}}
	if !sameLits(c, want) {
		t.Errorf("P2: a clause that came out earlier is now %v", c)
	}
}

func TestP2ProgramsDoNotMeet(t *testing.T) {
	var programs []*derive.Program
	var first []string
	for _, s := range samples() {
		p := compile(t, s)
		programs = append(programs, p)
		first = append(first, told(p))
	}
	wantError(t, "p(a;b).", api.ErrLex)
	wantError(t, "p(a). q(X).", api.ErrSafe)
	for i, p := range programs {
		if again := told(p); again != first[i] {
			t.Errorf("P2: behind other programs:\n%s\nwant:\n%s", again, first[i])
		}
		q := compile(t, samples()[i])
		if again := told(q); again != first[i] {
			t.Errorf("P2: the same text once more:\n%s\nwant:\n%s", again, first[i])
		}
	}
}
