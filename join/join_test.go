package join

import (
	"testing"

	"derive/rules"
	"derive/trie"
)

const width = 5

// v is a variable by its place in the rule's order and its level in the literal, c a value.
func v(place, level int) rules.Term { return rules.Term{Var: true, Num: place, Level: level} }

func c(value int) rules.Term { return rules.Term{Num: value} }

func lit(terms ...rules.Term) rules.Lit { return rules.Lit{Terms: terms} }

// rows is a trie of rows of so many values.
func rows(depth int, list ...trie.Row) *trie.Trie {
	t := trie.New(width, depth)
	for _, row := range list {
		t.Add(row, 0)
	}
	return t
}

func wantHeads(t *testing.T, j Join, want ...trie.Row) {
	t.Helper()
	for i, row := range want {
		if !j.Next() {
			t.Fatalf("there are %d heads, want %d", i, len(want))
		}
		if head := j.Head(); head != row {
			t.Errorf("head %d is %v, want %v", i, head, row)
		}
	}
	for n := 0; n < 3; n++ {
		if j.Next() {
			t.Fatalf("there is one head too many: %v", j.Head())
		}
	}
}

func TestOneVariable(t *testing.T) {
	rule := rules.Rule{Vars: 1, Head: lit(v(0, 0)), Plain: []rules.Lit{lit(v(0, 0)), lit(v(0, 0)), lit(v(0, 0))}}
	a := rows(1, trie.Row{0}, trie.Row{1}, trie.Row{3}, trie.Row{4})
	b := rows(1, trie.Row{1}, trie.Row{2}, trie.Row{3}, trie.Row{4})
	wantHeads(t, New(rule, []*trie.Trie{a, b, rows(1, trie.Row{1}, trie.Row{4})}, nil), trie.Row{1}, trie.Row{4})
	wantHeads(t, New(rule, []*trie.Trie{b, rows(1, trie.Row{0}), a}, nil))
	wantHeads(t, New(rule, []*trie.Trie{a, b, rows(1)}, nil))
}

func TestTriangle(t *testing.T) {
	rule := rules.Rule{Vars: 3, Head: lit(v(0, 0), v(1, 1), v(2, 2)), Plain: []rules.Lit{lit(v(0, 0), v(1, 1)), lit(v(1, 0), v(2, 1)), lit(v(2, 1), v(0, 0))}}
	e := rows(2, trie.Row{0, 1}, trie.Row{1, 2}, trie.Row{2, 3}, trie.Row{2, 0}, trie.Row{3, 1})
	back := rows(2, trie.Row{1, 0}, trie.Row{2, 1}, trie.Row{3, 2}, trie.Row{0, 2}, trie.Row{1, 3})
	wantHeads(t, New(rule, []*trie.Trie{e, e, back}, nil),
		trie.Row{0, 1, 2}, trie.Row{1, 2, 0}, trie.Row{1, 2, 3}, trie.Row{2, 0, 1}, trie.Row{2, 3, 1}, trie.Row{3, 1, 2})
}

func TestWhatHangsOnNothingIsSaidOnce(t *testing.T) {
	a := rows(1, trie.Row{1}, trie.Row{3})
	plain := []rules.Lit{lit(v(0, 0)), lit(v(1, 0)), lit(v(2, 0))}
	three := []*trie.Trie{a, a, a}
	for place := 0; place < 3; place++ {
		wantHeads(t, New(rules.Rule{Vars: 3, Head: lit(v(place, 0)), Plain: plain}, three, nil), trie.Row{1}, trie.Row{3})
	}
	wantHeads(t, New(rules.Rule{Vars: 3, Head: lit(c(4)), Plain: plain}, three, nil), trie.Row{4})
	wantHeads(t, New(rules.Rule{Vars: 3, Head: lit(v(2, 1), v(0, 0)), Plain: plain}, three, nil), trie.Row{1, 1}, trie.Row{3, 1}, trie.Row{1, 3}, trie.Row{3, 3})
}

func TestWhatHangsOnAnEarlierVariableIsLookedForAnew(t *testing.T) {
	a := rows(1, trie.Row{1}, trie.Row{3})
	e := rows(2, trie.Row{1, 0}, trie.Row{3, 2}, trie.Row{3, 4})
	plain := []rules.Lit{lit(v(0, 0)), lit(v(1, 0)), lit(v(0, 0), v(2, 1))}
	three := []*trie.Trie{a, a, e}
	wantHeads(t, New(rules.Rule{Vars: 3, Head: lit(v(2, 0)), Plain: plain}, three, nil), trie.Row{0}, trie.Row{2}, trie.Row{4})
	not := []*trie.Trie{rows(2, trie.Row{1, 1}, trie.Row{3, 3})}
	rule := rules.Rule{Vars: 3, Head: lit(v(2, 0)), Plain: []rules.Lit{plain[0], plain[1], lit(v(2, 0))}, Not: []rules.Lit{lit(v(0, 0), v(2, 1))}}
	wantHeads(t, New(rule, []*trie.Trie{a, a, a}, not), trie.Row{3}, trie.Row{1})
}

func TestNegatedLiterals(t *testing.T) {
	a := rows(1, trie.Row{0}, trie.Row{1}, trie.Row{2})
	rule := rules.Rule{Vars: 2, Head: lit(v(0, 0), v(1, 1)), Plain: []rules.Lit{lit(v(0, 0)), lit(v(1, 0))}, Not: []rules.Lit{lit(v(1, 1), v(0, 0)), lit(v(0, 0))}}
	not := []*trie.Trie{rows(2, trie.Row{0, 0}, trie.Row{2, 0}, trie.Row{1, 2}), rows(1, trie.Row{1})}
	wantHeads(t, New(rule, []*trie.Trie{a, a}, not), trie.Row{0, 1}, trie.Row{2, 0}, trie.Row{2, 2})
	// A row that is not there for the first value that the head has not may be there for the next.
	rule = rules.Rule{Vars: 2, Head: lit(v(0, 0)), Plain: rule.Plain, Not: []rules.Lit{lit(v(0, 0), v(1, 1))}}
	not = []*trie.Trie{rows(2, trie.Row{0, 0}, trie.Row{0, 1}, trie.Row{1, 0}, trie.Row{1, 1}, trie.Row{1, 2})}
	wantHeads(t, New(rule, []*trie.Trie{a, a}, not), trie.Row{0}, trie.Row{2})
}

// wantJoinMoves goes through the whole join.
func wantJoinMoves(t *testing.T, j Join, want int) {
	t.Helper()
	if j.Moves() != 0 {
		t.Errorf("there are %d moves at the beginning", j.Moves())
	}
	for j.Next() {
	}
	if j.Moves() != want {
		t.Errorf("there are %d moves, want %d", j.Moves(), want)
	}
	if j.Next() || j.Moves() != want {
		t.Errorf("behind the end there are %d moves, want %d", j.Moves(), want)
	}
}

func TestMoves(t *testing.T) {
	one := rules.Rule{Vars: 1, Head: lit(v(0, 0)), Plain: []rules.Lit{lit(v(0, 0))}}
	two := rules.Rule{Vars: 1, Head: lit(v(0, 0)), Plain: []rules.Lit{lit(v(0, 0)), lit(v(0, 0))}}
	many := rows(1, trie.Row{0}, trie.Row{1}, trie.Row{2}, trie.Row{3}, trie.Row{4})
	last := rows(1, trie.Row{4})
	// Each value is a move, and to find none any more.
	wantJoinMoves(t, New(one, []*trie.Trie{many}, nil), 6)
	wantJoinMoves(t, New(one, []*trie.Trie{last}, nil), 2)
	// To the first 0, to the 4, from 0 to the 4 at once, and no more.
	wantJoinMoves(t, New(two, []*trie.Trie{many, last}, nil), 4)
	wantJoinMoves(t, New(two, []*trie.Trie{last, many}, nil), 3)
	wantJoinMoves(t, New(two, []*trie.Trie{many, many}, nil), 11)
	// 0, 4, and no more.
	wantJoinMoves(t, New(two, []*trie.Trie{rows(1, trie.Row{0}), last}, nil), 3)
	// Nothing to look at.
	wantJoinMoves(t, New(two, []*trie.Trie{rows(1), many}, nil), 0)
	wantJoinMoves(t, New(two, []*trie.Trie{many, rows(1)}, nil), 0)
	// Negated literals make none.
	one.Not = []rules.Lit{lit(v(0, 0)), lit(c(1))}
	wantJoinMoves(t, New(one, []*trie.Trie{many}, []*trie.Trie{last, rows(1)}), 6)
	wantJoinMoves(t, New(rules.Rule{Head: lit(), Not: []rules.Lit{lit()}}, nil, []*trie.Trie{rows(0)}), 0)
}

func TestMovesOfTwoVariables(t *testing.T) {
	e := rows(2, trie.Row{0, 1}, trie.Row{0, 3}, trie.Row{2, 4})
	rule := rules.Rule{Vars: 2, Head: lit(v(0, 0), v(1, 1)), Plain: []rules.Lit{lit(v(0, 0), v(1, 1))}}
	// 0, there 1, 3 and no more; 2, there 4 and no more; no more.
	wantJoinMoves(t, New(rule, []*trie.Trie{e}, nil), 8)
	// 0 and there 1; 2 and there 4; no more: the head does not say the second variable.
	rule.Head = lit(v(0, 0))
	wantJoinMoves(t, New(rule, []*trie.Trie{e}, nil), 5)
}

func TestNoVariables(t *testing.T) {
	rule := rules.Rule{Head: lit(c(2)), Plain: []rules.Lit{lit(c(1))}, Not: []rules.Lit{lit(c(3), c(0))}}
	there, gone := rows(0, trie.Row{}), rows(0)
	wantHeads(t, New(rule, []*trie.Trie{there}, []*trie.Trie{rows(2, trie.Row{0, 3})}), trie.Row{2})
	wantHeads(t, New(rule, []*trie.Trie{there}, []*trie.Trie{rows(2, trie.Row{3, 0})}))
	wantHeads(t, New(rule, []*trie.Trie{gone}, []*trie.Trie{rows(2)}))
	wantHeads(t, New(rules.Rule{Head: lit()}, nil, nil), trie.Row{})
	wantHeads(t, New(rules.Rule{Head: lit(), Not: []rules.Lit{lit()}}, nil, []*trie.Trie{gone}), trie.Row{})
	wantHeads(t, New(rules.Rule{Head: lit(), Not: []rules.Lit{lit()}}, nil, []*trie.Trie{there}))
}
