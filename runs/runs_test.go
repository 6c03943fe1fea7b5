package runs

import (
	"testing"

	"derive/rules"
	"derive/trie"
)

func v(place, level int) rules.Term { return rules.Term{Var: true, Num: place, Level: level} }

// way: predicate 0 has steps 0-1, 1-2, 2-3; predicate 1 is there where a way is.
func way() rules.Set {
	step := rules.Lit{Pred: 0, Terms: []rules.Term{v(0, 0), v(1, 1)}}
	s := rules.Set{Width: 4, Arities: []int{2, 2}}
	for i := 0; i < 3; i++ {
		s.Facts = append(s.Facts, rules.Fact{Pred: 0, Row: trie.Row{i, i + 1}})
	}
	s.Rules = append(s.Rules, rules.Rule{Vars: 2, Head: rules.Lit{Pred: 1, Terms: step.Terms}, Plain: []rules.Lit{step}})
	s.Rules = append(s.Rules, rules.Rule{
		Vars:  3,
		Head:  rules.Lit{Pred: 1, Terms: []rules.Term{v(0, 0), v(2, 1)}},
		Plain: []rules.Lit{{Pred: 1, Terms: []rules.Term{v(0, 0), v(1, 1)}}, {Pred: 0, Terms: []rules.Term{v(1, 0), v(2, 1)}}},
	})
	return s
}

func TestRun(t *testing.T) {
	out, ok := Run(way(), 9, 4)
	if !ok || out.Count != 9 || out.Rounds != 4 || len(out.Rows) != 2 {
		t.Fatalf("%v, %v", out, ok)
	}
	for i := 0; i < 4; i++ {
		for k := 0; k < 4; k++ {
			when, ok := out.Rows[1].Mark(trie.Row{i, k})
			if ok != (i < k) || (ok && when != k-i) {
				t.Errorf("the way from %d to %d came in round %d, %v", i, k, when, ok)
			}
		}
	}
}

// Moves are those of all joins of all rounds.
func TestMoves(t *testing.T) {
	s := way()
	s.Rules = s.Rules[:1]
	// Three times a step's beginning, its end, and no more ends; no more beginnings. The second round has nothing to join.
	out, ok := Run(s, 6, 2)
	if !ok || out.Moves != 10 {
		t.Errorf("%d moves, %v, want 10", out.Moves, ok)
	}
	whole, ok := Run(way(), 9, 4)
	if !ok || whole.Moves <= out.Moves {
		t.Errorf("%d moves, %v, want more than %d", whole.Moves, ok, out.Moves)
	}
	again, ok := Run(way(), 100, 100)
	if !ok || again.Moves != whole.Moves {
		t.Errorf("%d moves, %v, and once more %d", whole.Moves, ok, again.Moves)
	}
}

func TestLimits(t *testing.T) {
	for _, c := range []struct{ rows, rounds int }{{8, 4}, {9, 3}, {0, 0}, {2, 9}, {9, 0}, {-1, -1}} {
		if out, ok := Run(way(), c.rows, c.rounds); ok || out.Rows != nil || out.Count != 0 || out.Rounds != 0 || out.Moves != 0 {
			t.Errorf("Run with %d rows and %d rounds = %v, %v", c.rows, c.rounds, out, ok)
		}
	}
}

func TestView(t *testing.T) {
	w := newView(rules.Lit{Terms: []rules.Term{v(1, 1), v(0, 0), {Num: 2}}}, 3)
	w.renew([]trie.Row{{0, 1, 2}, {0, 1, 1}})
	wantView(t, w, nil, []trie.Row{{1, 0}}, []trie.Row{{1, 0}})
	w.renew([]trie.Row{{2, 0, 2}, {2, 2, 2}})
	wantView(t, w, []trie.Row{{1, 0}}, []trie.Row{{0, 2}, {2, 2}}, []trie.Row{{0, 2}, {1, 0}, {2, 2}})
	w.renew(nil)
	wantView(t, w, []trie.Row{{0, 2}, {1, 0}, {2, 2}}, nil, []trie.Row{{0, 2}, {1, 0}, {2, 2}})
}

func wantView(t *testing.T, w view, before, fresh, all []trie.Row) {
	t.Helper()
	for _, c := range []struct {
		what string
		got  []trie.Row
		want []trie.Row
	}{{"before", w.before.Rows(), before}, {"fresh", w.fresh.Rows(), fresh}, {"all", w.all.Rows(), all}} {
		same := len(c.got) == len(c.want)
		for i := 0; same && i < len(c.want); i++ {
			same = c.got[i] == c.want[i]
		}
		if !same {
			t.Errorf("%s: %v, want %v", c.what, c.got, c.want)
		}
	}
}

// Of the joins of all places, each finds what has its first fresh row there: together all, and nothing twice.
func TestPartly(t *testing.T) {
	one := rules.Lit{Pred: 0, Terms: []rules.Term{v(0, 0)}}
	two := rules.Lit{Pred: 0, Terms: []rules.Term{v(1, 0)}}
	rule := rules.Rule{Vars: 2, Head: rules.Lit{Pred: 1, Terms: []rules.Term{v(0, 0), v(1, 1)}}, Plain: []rules.Lit{one, two}}
	w := work{rule: rule, views: []view{newView(one, 3), newView(two, 3)}}
	w.renew([][]trie.Row{{{0}, {1}}})
	w.renew([][]trie.Row{{{2}}})
	var found []trie.Row
	for i := range w.views {
		j := w.partly(i)
		for j.Next() {
			found = append(found, j.Head())
		}
	}
	want := []trie.Row{{2, 0}, {2, 1}, {2, 2}, {0, 2}, {1, 2}}
	if len(found) != len(want) {
		t.Fatalf("%v, want %v", found, want)
	}
	for i := range want {
		if found[i] != want[i] {
			t.Errorf("%v, want %v", found, want)
		}
	}
}
