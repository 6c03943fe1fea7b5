package rules

import (
	"testing"

	"derive/clauses"
	"derive/consts"
	"derive/preds"
	"derive/trie"
	"derive/words"
)

func set(t *testing.T, s string) Set {
	t.Helper()
	return ordered(t, s, nil)
}

func ordered(t *testing.T, s string, orders [][]int) Set {
	t.Helper()
	found, ok := words.Split(s)
	if !ok {
		t.Fatalf("Split(%q) is false", s)
	}
	list, ok := clauses.Parse(found)
	if !ok {
		t.Fatalf("Parse(%q) is false", s)
	}
	names, ok := preds.Collect(list)
	if !ok || !names.Stratify(list) {
		t.Fatalf("%q has no strata", s)
	}
	values := consts.Collect(list)
	return Make(list, &names, &values, orders)
}

func sameInts(a, b []int) bool {
	if len(a) != len(b) {
		return false
	}
	for i := range a {
		if a[i] != b[i] {
			return false
		}
	}
	return true
}

func TestMake(t *testing.T) {
	s := set(t, "q(b,a,b). p(X,c) :- !r(Z), q(Z,X,a), o, !o1(X,X). o.")
	// The predicates are o, o1, p, q, r, the values a, b, c.
	if s.Width != 3 || !sameInts(s.Arities, []int{0, 2, 2, 3, 1}) || len(s.Facts) != 2 || len(s.Rules) != 1 {
		t.Fatalf("%v", s)
	}
	if f := s.Facts[0]; f.Pred != 3 || f.Row != (trie.Row{1, 0, 1}) {
		t.Errorf("fact %v", f)
	}
	if f := s.Facts[1]; f.Pred != 0 || f.Row != (trie.Row{}) {
		t.Errorf("fact %v", f)
	}
	r := s.Rules[0]
	if r.Stratum != 1 || r.Vars != 2 || r.Head.Pred != 2 || len(r.Plain) != 2 || len(r.Not) != 2 {
		t.Fatalf("rule %v", r)
	}
	if r.Plain[0].Pred != 3 || r.Plain[1].Pred != 0 || r.Not[0].Pred != 4 || r.Not[1].Pred != 1 {
		t.Errorf("rule %v", r)
	}
	// In the order of Vars Z is the first variable, X the second.
	if row := r.Head.Row(Values{1, 2}); row != (trie.Row{2, 2}) {
		t.Errorf("the head says %v", row)
	}
	if row := r.Not[0].Row(Values{1, 2}); row != (trie.Row{1}) {
		t.Errorf("r's row is %v", row)
	}
	if row := r.Plain[0].Row(Values{1, 2}); row != (trie.Row{1, 2, 0}) {
		t.Errorf("q's row is %v", row)
	}
}

// An order has the numbers of Vars: with 2, 0, 1 the third variable of Vars is joined first.
func TestMakeWithOrders(t *testing.T) {
	s := "q(a,b,c). p(A,C) :- q(A,B,C), !r(B,C,A). u(X) :- q(X,Y,k)."
	for _, c := range []struct {
		order       []int
		head, plain trie.Row // at the values 0, 1, 2 by the order
	}{
		{nil, trie.Row{0, 2}, trie.Row{0, 1, 2}},
		{[]int{0, 1, 2}, trie.Row{0, 2}, trie.Row{0, 1, 2}},
		{[]int{2, 0, 1}, trie.Row{1, 0}, trie.Row{1, 2, 0}},
		{[]int{1, 2, 0}, trie.Row{2, 1}, trie.Row{2, 0, 1}},
		{[]int{2, 1, 0}, trie.Row{2, 0}, trie.Row{2, 1, 0}},
	} {
		made := ordered(t, s, [][]int{nil, c.order, nil})
		r := made.Rules[0]
		if row := r.Head.Row(Values{0, 1, 2}); row != c.head {
			t.Errorf("in the order %v the head says %v, want %v", c.order, row, c.head)
		}
		if row := r.Plain[0].Row(Values{0, 1, 2}); row != c.plain {
			t.Errorf("in the order %v q's row is %v, want %v", c.order, row, c.plain)
		}
		want := trie.Row{c.plain[1], c.plain[2], c.plain[0]}
		if row := r.Not[0].Row(Values{0, 1, 2}); row != want {
			t.Errorf("in the order %v r's row is %v, want %v", c.order, row, want)
		}
		// The first variable of the order is at level 0: at these values the row is sorted as 0, 1, 2.
		if row, ok := r.Plain[0].Match(c.plain); row != (trie.Row{0, 1, 2}) || !ok {
			t.Errorf("in the order %v Match(%v) = %v, %v", c.order, c.plain, row, ok)
		}
		// The order of one clause is not that of another.
		if row := made.Rules[1].Plain[0].Row(Values{0, 1}); row != (trie.Row{0, 1, 3}) {
			t.Errorf("in the order %v q's row in the other rule is %v", c.order, row)
		}
		if row := made.Facts[0].Row; row != (trie.Row{0, 1, 2}) {
			t.Errorf("in the order %v the fact is %v", c.order, row)
		}
	}
}

// How far to go back hangs on the order.
func TestBackInAnOrder(t *testing.T) {
	s := "p(C) :- q(A), q(B), r(A,C)."
	for _, c := range []struct{ order, want []int }{
		{nil, []int{-1, 0, 0, 2}},
		{[]int{2, 0, 1}, []int{-1, 0, 0, 0}},
		{[]int{1, 2, 0}, []int{-1, -1, 1, 1}},
	} {
		r := ordered(t, s, [][]int{c.order}).Rules[0]
		for known, want := range c.want {
			if got := r.Back(known); got != want {
				t.Errorf("in the order %v Back(%d) = %d, want %d", c.order, known, got, want)
			}
		}
	}
}

func TestLevels(t *testing.T) {
	r := set(t, "p(C) :- q(A,B,C), r(C,A), s(B,k), t(C,C,B), u.").Rules[0]
	for i, want := range [][]int{{0, 1, 2}, {0, -1, 1}, {-1, 0, -1}, {-1, 0, 1}, {-1, -1, -1}} {
		for place, level := range want {
			n, ok := r.Plain[i].Level(place)
			if ok != (level >= 0) || (ok && n != level) || (!ok && n != 0) {
				t.Errorf("literal %d: Level(%d) = %d, %v, want %d", i, place, n, ok, level)
			}
		}
	}
	for i, want := range []struct{ depth, known int }{{3, 3}, {2, 3}, {1, 2}, {2, 3}, {0, 0}} {
		l := r.Plain[i]
		if l.Depth() != want.depth || l.Known() != want.known {
			t.Errorf("literal %d: Depth %d, Known %d, want %v", i, l.Depth(), l.Known(), want)
		}
	}
}

func TestBack(t *testing.T) {
	for _, c := range []struct {
		s    string
		want []int // where to go on for each number of known variables
	}{
		{"p(A,B,C) :- q(A), q(B), q(C).", []int{-1, 0, 1, 2}},
		{"p(A) :- q(A), q(B), q(C).", []int{-1, 0, 0, 0}},
		{"p(C) :- q(A), q(B), q(C).", []int{-1, -1, -1, 2}},
		{"p(C) :- q(A), q(B), r(A,C).", []int{-1, 0, 0, 2}},
		{"p(B) :- q(A), q(B), q(C), !r(A,C).", []int{-1, 0, 1, 1}},
		{"p(k) :- r(A,B), r(B,C).", []int{-1, 0, 1, -1}},
		{"p(C) :- q(A), q(B), q(C), !r(A,B).", []int{-1, 0, -1, 2}},
		{"p(k) :- !q(a).", []int{-1}},
	} {
		r := set(t, c.s).Rules[0]
		if r.Vars != len(c.want)-1 {
			t.Fatalf("%q has %d variables", c.s, r.Vars)
		}
		for known, want := range c.want {
			if got := r.Back(known); got != want {
				t.Errorf("of %q Back(%d) = %d, want %d", c.s, known, got, want)
			}
		}
	}
}

func TestMatch(t *testing.T) {
	r := set(t, "p(A) :- q(A,B), t(B,k,A), t(A,B,A), t(B,B,B), o, s(l). n(j).").Rules[0]
	// The values are j, k, l; A comes ahead of B.
	for _, c := range []struct {
		lit       int
		row, want trie.Row
		ok        bool
	}{
		{0, trie.Row{2, 1}, trie.Row{2, 1}, true},
		{1, trie.Row{2, 1, 0}, trie.Row{0, 2}, true},
		{1, trie.Row{2, 0, 0}, trie.Row{}, false},
		{2, trie.Row{1, 2, 1}, trie.Row{1, 2}, true},
		{2, trie.Row{1, 2, 0}, trie.Row{}, false},
		{2, trie.Row{0, 2, 1}, trie.Row{}, false},
		{3, trie.Row{2, 2, 2}, trie.Row{2}, true},
		{3, trie.Row{2, 2, 1}, trie.Row{}, false},
		{3, trie.Row{1, 2, 2}, trie.Row{}, false},
		{3, trie.Row{2, 1, 2}, trie.Row{}, false},
		{4, trie.Row{}, trie.Row{}, true},
		{5, trie.Row{2}, trie.Row{}, true},
		{5, trie.Row{1}, trie.Row{}, false},
	} {
		if row, ok := r.Plain[c.lit].Match(c.row); row != c.want || ok != c.ok {
			t.Errorf("literal %d: Match(%v) = %v, %v, want %v, %v", c.lit, c.row, row, ok, c.want, c.ok)
		}
	}
}
