package runs

import (
	"derive/rules"
	"derive/trie"
)

// view has the rows that a plain literal allows, sorted by its variables.
type view struct {
	lit    rules.Lit
	width  int
	before *trie.Trie // all but the fresh ones
	fresh  *trie.Trie // those that came last
	all    *trie.Trie
}

func newView(l rules.Lit, width int) view {
	v := view{lit: l, width: width}
	depth := l.Depth()
	v.before = trie.New(width, depth)
	v.fresh = trie.New(width, depth)
	v.all = trie.New(width, depth)
	return v
}

// renew takes other rows of the predicate for the fresh ones.
func (v *view) renew(rows []trie.Row) {
	for _, row := range v.fresh.Rows() {
		v.before.Add(row, 0)
	}
	v.fresh = trie.New(v.width, v.lit.Depth())
	for _, row := range rows {
		found, ok := v.lit.Match(row)
		if ok {
			v.fresh.Add(found, 0)
			v.all.Add(found, 0)
		}
	}
}
