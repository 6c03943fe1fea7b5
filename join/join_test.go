package join

import (
	"testing"

	"derive/rules"
	"derive/trie"
)

const width = 5

// v is a variable by its place in the rule's order and its level in the literal, c a value.
func v(place, level int) rules.Term { return rules.Term{Var: true, Num: place, Level: level} }

func c(value int) rules.Term { return rules.Term{Num: value} }

func lit(terms ...rules.Term) rules.Lit { return rules.Lit{Terms: terms} }

// rows is a trie of rows of so many values.
func rows(depth int, list ...trie.Row) *trie.Trie {
	t := trie.New(width, depth)
	for _, row := range list {
		t.Add(row, 0)
	}
	return t
}

func wantHeads(t *testing.T, j Join, want ...trie.Row) {
	t.Helper()
	for i, row := range want {
		if !j.Next() {
			t.Fatalf("there are %d heads, want %d", i, len(want))
		}
		if head := j.Head(); head != row {
			t.Errorf("head %d is %v, want %v", i, head, row)
		}
	}
	for n := 0; n < 3; n++ {
		if j.Next() {
			t.Fatalf("there is one head too many: %v", j.Head())
		}
	}
}

func TestOneVariable(t *testing.T) {
	rule := rules.Rule{Vars: 1, Head: lit(v(0, 0)), Plain: []rules.Lit{lit(v(0, 0)), lit(v(0, 0)), lit(v(0, 0))}}
	a := rows(1, trie.Row{0}, trie.Row{1}, trie.Row{3}, trie.Row{4})
	b := rows(1, trie.Row{1}, trie.Row{2}, trie.Row{3}, trie.Row{4})
	wantHeads(t, New(rule, []*trie.Trie{a, b, rows(1, trie.Row{1}, trie.Row{4})}, nil), trie.Row{1}, trie.Row{4})
	wantHeads(t, New(rule, []*trie.Trie{b, rows(1, trie.Row{0}), a}, nil))
	wantHeads(t, New(rule, []*trie.Trie{a, b, rows(1)}, nil))
}

func TestTriangle(t *testing.T) {
	rule := rules.Rule{Vars: 3, Head: lit(v(0, 0), v(1, 1), v(2, 2)), Plain: []rules.Lit{lit(v(0, 0), v(1, 1)), lit(v(1, 0), v(2, 1)), lit(v(2, 1), v(0, 0))}}
	e := rows(2, trie.Row{0, 1}, trie.Row{1, 2}, trie.Row{2, 3}, trie.Row{2, 0}, trie.Row{3, 1})
	back := rows(2, trie.Row{1, 0}, trie.Row{2, 1}, trie.Row{3, 2}, trie.Row{0, 2}, trie.Row{1, 3})
	wantHeads(t, New(rule, []*trie.Trie{e, e, back}, nil),
		trie.Row{0, 1, 2}, trie.Row{1, 2, 0}, trie.Row{1, 2, 3}, trie.Row{2, 0, 1}, trie.Row{2, 3, 1}, trie.Row{3, 1, 2})
}

func TestWhatHangsOnNothingIsSaidOnce(t *testing.T) {
	a := rows(1, trie.Row{1}, trie.Row{3})
	plain := []rules.Lit{lit(v(0, 0)), lit(v(1, 0)), lit(v(2, 0))}
	three := []*trie.Trie{a, a, a}
	for place := 0; place < 3; place++ {
		wantHeads(t, New(rules.Rule{Vars: 3, Head: lit(v(place, 0)), Plain: plain}, three, nil), trie.Row{1}, trie.Row{3})
	}
	wantHeads(t, New(rules.Rule{Vars: 3, Head: lit(c(4)), Plain: plain}, three, nil), trie.Row{4})
	wantHeads(t, New(rules.Rule{Vars: 3, Head: lit(v(2, 1), v(0, 0)), Plain: plain}, three, nil), trie.Row{1, 1}, trie.Row{3, 1}, trie.Row{1, 3}, trie.Row{3, 3})
}

func TestWhatHangsOnAnEarlierVariableIsLookedForAnew(t *testing.T) {
	a := rows(1, trie.Row{1}, trie.Row{3})
	e := rows(2, trie.Row{1, 0}, trie.Row{3, 2}, trie.Row{3, 4})
	plain := []rules.Lit{lit(v(0, 0)), lit(v(1, 0)), lit(v(0, 0), v(2, 1))}
	three := []*trie.Trie{a, a, e}
	wantHeads(t, New(rules.Rule{Vars: 3, Head: lit(v(2, 0)), Plain: plain}, three, nil), trie.Row{0}, trie.Row{2}, trie.Row{4})
	not := []*trie.Trie{rows(2, trie.Row{1, 1}, trie.Row{3, 3})}
	rule := rules.Rule{Vars: 3, Head: lit(v(2, 0)), Plain: []rules.Lit{plain[0], plain[1], lit(v(2, 0))}, Not: []rules.Lit{lit(v(0, 0), v(2, 1))}}
	wantHeads(t, New(rule, []*trie.Trie{a, a, a}, not), trie.Row{3}, trie.Row{1})
}

func TestNegatedLiterals(t *testing.T) {
	a := rows(1, trie.Row{0}, trie.Row{1}, trie.Row{2})
	rule := rules.Rule{Vars: 2, Head: lit(v(0, 0), v(1, 1)), Plain: []rules.Lit{lit(v(0, 0)), lit(v(1, 0))}, Not: []rules.Lit{lit(v(1, 1), v(0, 0)), lit(v(0, 0))}}
	not := []*trie.Trie{rows(2, trie.Row{0, 0}, trie.Row{2, 0}, trie.Row{1, 2}), rows(1, trie.Row{1})}
	wantHeads(t, New(rule, []*trie.Trie{a, a}, not), trie.Row{0, 1}, trie.Row{2, 0}, trie.Row{2, 2})
	// A row that is not there for the first value that the head has not may be there for the next.
	rule = rules.Rule{Vars: 2, Head: lit(v(0, 0)), Plain: rule.Plain, Not: []rules.Lit{lit(v(0, 0), v(1, 1))}}
	not = []*trie.Trie{rows(2, trie.Row{0, 0}, trie.Row{0, 1}, trie.Row{1, 0}, trie.Row{1, 1}, trie.Row{1, 2})}
	wantHeads(t, New(rule, []*trie.Trie{a, a}, not), trie.Row{0}, trie.Row{2})
}

func TestNoVariables(t *testing.T) {
	rule := rules.Rule{Head: lit(c(2)), Plain: []rules.Lit{lit(c(1))}, Not: []rules.Lit{lit(c(3), c(0))}}
	there, gone := rows(0, trie.Row{}), rows(0)
	wantHeads(t, New(rule, []*trie.Trie{there}, []*trie.Trie{rows(2, trie.Row{0, 3})}), trie.Row{2})
	wantHeads(t, New(rule, []*trie.Trie{there}, []*trie.Trie{rows(2, trie.Row{3, 0})}))
	wantHeads(t, New(rule, []*trie.Trie{gone}, []*trie.Trie{rows(2)}))
	wantHeads(t, New(rules.Rule{Head: lit()}, nil, nil), trie.Row{})
	wantHeads(t, New(rules.Rule{Head: lit(), Not: []rules.Lit{lit()}}, nil, []*trie.Trie{gone}), trie.Row{})
	wantHeads(t, New(rules.Rule{Head: lit(), Not: []rules.Lit{lit()}}, nil, []*trie.Trie{there}))
}
