package derive

import (
	"derive/api"
	"derive/consts"
	"derive/preds"
	"derive/runs"
	"derive/trie"
)

// Result is what follows.
type Result struct {
	preds  preds.Table
	values consts.Table
	out    runs.Outcome
}

// Rows tells the rows of a predicate (P9).
func (r *Result) Rows(pred string) ([][]string, api.Errno) {
	i, ok := r.preds.Find(pred)
	if !ok || i >= len(r.out.Rows) {
		return nil, api.ErrPred
	}
	found := r.out.Rows[i].Rows()
	list := make([][]string, len(found))
	for k, row := range found {
		list[k] = r.terms(row, r.preds.Arity(i))
	}
	return list, api.OK
}

func (r *Result) terms(row trie.Row, arity int) []string {
	list := make([]string, arity)
	for i, v := range row {
		if i < len(list) {
			list[i] = r.values.Name(v)
		}
	}
	return list
}

// When tells the round in which a row came (P10).
func (r *Result) When(pred string, row []string) (int, api.Errno) {
	i, ok := r.preds.Find(pred)
	if !ok || i >= len(r.out.Rows) {
		return 0, api.ErrPred
	}
	if len(row) != r.preds.Arity(i) {
		return 0, api.ErrRow
	}
	values, ok := r.row(row)
	if !ok {
		return 0, api.ErrRow
	}
	round, ok := r.out.Rows[i].Mark(values)
	if !ok {
		return 0, api.ErrRow
	}
	return round, api.OK
}

// row gives the values of terms. It is false if the text has no such terms.
func (r *Result) row(terms []string) (trie.Row, bool) {
	var row trie.Row
	for i, term := range terms {
		v, ok := r.values.Value(term)
		if !ok || i >= len(row) {
			return trie.Row{}, false
		}
		row[i] = v
	}
	return row, true
}

// Counts tells how many rows, rounds and moves there were (P10).
func (r *Result) Counts() (int, int, int) {
	return r.out.Count, r.out.Rounds, r.out.Moves
}
