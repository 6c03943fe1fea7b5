// Package rules holds what a run works with: the facts and rules of a text, with numbers for their predicates, terms and variables.
package rules

import (
	"derive/api"
	"derive/trie"
)

// Values are the values of a rule's variables, in the order in which the rule is joined.
type Values [api.MaxVars]int

// Term is a term of a literal.
type Term struct {
	Var   bool // it is a variable
	Num   int  // its value; of a variable its place in the rule's order
	Level int  // of a variable: how many others of the literal come ahead of it in the rule's order
}

// Lit is a literal, whether it is negated or not.
type Lit struct {
	Pred  int
	Terms []Term
}

// has tells whether the literal has the variable of this place.
func (l Lit) has(place int) bool {
	for _, t := range l.Terms {
		if t.Var && t.Num == place {
			return true
		}
	}
	return false
}

// Level tells at which level of the literal's rows the variable of this place stands. It is false if the literal has no such variable.
func (l Lit) Level(place int) (int, bool) {
	if !l.has(place) {
		return 0, false
	}
	level := 0
	for p := 0; p < place; p++ {
		if l.has(p) {
			level++
		}
	}
	return level, true
}

// Depth tells how many variables the literal has.
func (l Lit) Depth() int {
	depth := 0
	for p := 0; p < api.MaxVars; p++ {
		if l.has(p) {
			depth++
		}
	}
	return depth
}

// Known tells how many variables of the rule's order have to be known until all of the literal's are.
func (l Lit) Known() int {
	known := 0
	for _, t := range l.Terms {
		if t.Var && t.Num >= known {
			known = t.Num + 1
		}
	}
	return known
}

// lastOf tells the last variable that the literal has of the first so many, or -1 if it has none of them.
func (l Lit) lastOf(known int) int {
	last := -1
	for _, t := range l.Terms {
		if t.Var && t.Num < known && t.Num > last {
			last = t.Num
		}
	}
	return last
}

// tied is lastOf for a literal that has a variable behind the first so many too, and -1 for any other.
func (l Lit) tied(known int) int {
	if l.Known() <= known {
		return -1
	}
	return l.lastOf(known)
}

// Row gives the row that the literal tells at these values.
func (l Lit) Row(values Values) trie.Row {
	var row trie.Row
	for i := range row {
		if i < len(l.Terms) {
			row[i] = l.Terms[i].at(values)
		}
	}
	return row
}

func (t Term) at(values Values) int {
	if t.Var && t.Num >= 0 && t.Num < len(values) {
		return values[t.Num]
	}
	return t.Num
}

// Match gives the values that a row of the predicate has for the literal's variables, by their levels. It is false if the
// literal does not allow the row.
func (l Lit) Match(row trie.Row) (trie.Row, bool) {
	var found trie.Row
	for i, v := range row {
		if i < len(l.Terms) && l.Terms[i].leveled() {
			found[l.Terms[i].Level] = v
		}
	}
	for i, v := range row {
		if i < len(l.Terms) && !l.Terms[i].allows(v, found) {
			return trie.Row{}, false
		}
	}
	return found, true
}

func (t Term) leveled() bool {
	return t.Var && t.Level >= 0 && t.Level < api.MaxArity
}

// allows tells whether the value may stand for the term. A variable that stands twice has one value alone.
func (t Term) allows(v int, found trie.Row) bool {
	if t.leveled() {
		return found[t.Level] == v
	}
	return t.Num == v
}
