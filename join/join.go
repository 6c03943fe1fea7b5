// Package join finds the values of a rule's variables for which its body holds.
//
// It goes variable by variable, in the rule's order: for each in turn the least value on which all plain literals agree
// that have the variable, as far as their earlier variables are known.
package join

import (
	"derive/api"
	"derive/rules"
	"derive/trie"
)

// side is a plain literal's part in a join: the rows that it allows, sorted by its variables.
type side struct {
	rows  *trie.Trie
	nodes [api.MaxArity]int // at each level the node behind the values that are known
}

// hold tells that a side has a variable, and at which level of its rows.
type hold struct {
	side  int
	level int
}

// bar is a negated literal: its row must not be there.
type bar struct {
	lit   rules.Lit
	known int // how many variables have to be known to look for it
	rows  *trie.Trie
}

// Join goes through the values at which a body holds.
type Join struct {
	head   rules.Lit
	vars   int
	sides  []side
	bars   []bar
	holds  [api.MaxVars][]hold // of each variable
	backs  [api.MaxVars]int    // of each variable: where to go on when it has no value any more
	last   int                 // where to go on when all have one
	values rules.Values
	from   rules.Values // for each variable the least value that is still to be tried
	depth  int          // the variable at which to go on; -1: nothing is left
	moves  int
}

// New makes a join: plain has the rows that each plain literal allows, by its variables' levels, and not has all rows of
// each negated literal's predicate. They must not change while the join goes on.
func New(rule rules.Rule, plain, not []*trie.Trie) Join {
	j := Join{head: rule.Head, vars: rule.Vars, last: rule.Back(rule.Vars), sides: make([]side, len(plain))}
	for place := range j.holds {
		j.holds[place] = holdsOf(rule, place)
		j.backs[place] = rule.Back(place)
	}
	for i, rows := range plain {
		j.sides[i].rows = rows
		if rows.Count() == 0 {
			j.depth = -1
		}
	}
	for i, l := range rule.Not {
		if i < len(not) {
			j.bars = append(j.bars, bar{lit: l, known: l.Known(), rows: not[i]})
		}
	}
	if j.barred(0) {
		j.depth = -1
	}
	return j
}

func holdsOf(rule rules.Rule, place int) []hold {
	var list []hold
	for i, l := range rule.Plain {
		level, ok := l.Level(place)
		if ok {
			list = append(list, hold{side: i, level: level})
		}
	}
	return list
}

// Next goes on to the next values at which the body holds. It is false if there are none.
func (j *Join) Next() bool {
	found := j.search()
	j.depth = -1
	if found {
		j.depth = j.last
	}
	return found
}

// Head tells the row that the head says at these values.
func (j *Join) Head() trie.Row {
	return j.head.Row(j.values)
}

// Moves tells how many moves there were so far (P12).
func (j *Join) Moves() int { return j.moves }

// search looks for values of all variables, beginning at the one at which to go on. It ends, for the values rise: each
// step takes a greater value of some variable, with those ahead of it as they are, or goes back.
func (j *Join) search() bool {
	depth := j.depth
	for depth >= 0 && depth < j.vars && depth < len(j.from) {
		v, ok := j.agree(depth, j.from[depth])
		if !ok {
			depth = j.backs[depth]
			continue
		}
		j.take(depth, v)
		if !j.barred(depth + 1) {
			depth++
		}
	}
	return depth >= j.vars
}

// barred tells whether a negated literal has its row that can be looked for since so many variables are known.
func (j *Join) barred(known int) bool {
	for _, b := range j.bars {
		if b.known == known {
			row := b.lit.Row(j.values)
			_, there := b.rows.Mark(row)
			if there {
				return true
			}
		}
	}
	return false
}
