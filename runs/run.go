// Package runs works out all that follows from a text in numbers, stratum by stratum and round by round (P8).
package runs

import (
	"derive/join"
	"derive/rules"
	"derive/trie"
)

// Outcome is all that follows.
type Outcome struct {
	Rows   []*trie.Trie // for each predicate its rows; a row's mark is the round in which it came
	Count  int          // of all rows
	Rounds int
	Moves  int // of all joins together
}

// run is a run under way.
type run struct {
	out       Outcome
	width     int
	maxRows   int
	maxRounds int
	fresh     [][]trie.Row // for each predicate the rows that came in this round
}

// Run works out what follows. It is false if there are more rows or rounds than allowed.
func Run(set rules.Set, maxRows, maxRounds int) (Outcome, bool) {
	r := run{width: set.Width, maxRows: maxRows, maxRounds: maxRounds}
	r.out.Rows = make([]*trie.Trie, len(set.Arities))
	for i, arity := range set.Arities {
		r.out.Rows[i] = trie.New(set.Width, arity)
	}
	r.clear()
	for _, f := range set.Facts {
		if !r.add(f.Pred, f.Row) {
			return Outcome{}, false
		}
	}
	// There are fewer strata than predicates, or as many.
	for stratum := range set.Arities {
		if !r.stratum(set.Rules, stratum) {
			return Outcome{}, false
		}
	}
	return r.out, true
}

func (r *run) clear() {
	r.fresh = make([][]trie.Row, len(r.out.Rows))
}

// add adds a row, if it is new, to those of this round. It is false if there are too many now.
func (r *run) add(pred int, row trie.Row) bool {
	if pred < 0 || pred >= len(r.out.Rows) || pred >= len(r.fresh) {
		return true
	}
	added := r.out.Rows[pred].Add(row, r.out.Rounds)
	if !added {
		return true
	}
	r.fresh[pred] = append(r.fresh[pred], row)
	r.out.Count++
	return r.out.Count <= r.maxRows
}

func (r *run) rowsOf(pred int) *trie.Trie {
	if pred < 0 || pred >= len(r.out.Rows) {
		return trie.New(r.width, 0)
	}
	return r.out.Rows[pred]
}

// stratum does all rounds of a stratum. It is false if a limit is too low.
func (r *run) stratum(list []rules.Rule, stratum int) bool {
	works := r.works(list, stratum)
	first := true
	more := len(works) > 0
	for more {
		if r.out.Rounds >= r.maxRounds {
			return false
		}
		before := r.out.Count
		if !r.round(works, first) {
			return false
		}
		first = false
		more = r.out.Count > before
	}
	return true
}

// round does one round. Its joins look at the rows as they were at its beginning: those that it adds are laid before the
// rules at its end.
func (r *run) round(works []work, first bool) bool {
	r.out.Rounds++
	r.clear()
	for i := range works {
		if !r.apply(&works[i], first) {
			return false
		}
	}
	for i := range works {
		works[i].renew(r.fresh)
	}
	return true
}

// apply adds what a rule says. Behind a stratum's first round only those values can say something new at which some
// plain literal's row came in the round before.
func (r *run) apply(w *work, first bool) bool {
	if first {
		j := w.whole()
		return r.addAll(w.rule.Head.Pred, &j)
	}
	for i, v := range w.views {
		if v.fresh.Count() > 0 {
			j := w.partly(i)
			if !r.addAll(w.rule.Head.Pred, &j) {
				return false
			}
		}
	}
	return true
}

func (r *run) addAll(pred int, j *join.Join) bool {
	for j.Next() {
		row := j.Head()
		if !r.add(pred, row) {
			return false
		}
	}
	r.out.Moves += j.Moves()
	return true
}
