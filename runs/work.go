package runs

import (
	"derive/join"
	"derive/rules"
	"derive/trie"
)

// work is a rule with the rows that it looks at.
type work struct {
	rule  rules.Rule
	views []view       // of each plain literal
	nots  []*trie.Trie // for each negated literal its predicate's rows
}

// works gives the rules of a stratum.
func (r *run) works(list []rules.Rule, stratum int) []work {
	var found []work
	for _, rule := range list {
		if rule.Stratum == stratum {
			w := r.work(rule)
			found = append(found, w)
		}
	}
	return found
}

func (r *run) work(rule rules.Rule) work {
	w := work{rule: rule}
	for _, l := range rule.Plain {
		v := newView(l, r.width)
		rows := r.rowsOf(l.Pred)
		v.renew(rows.Rows())
		w.views = append(w.views, v)
	}
	for _, l := range rule.Not {
		rows := r.rowsOf(l.Pred)
		w.nots = append(w.nots, rows)
	}
	return w
}

// whole gives the join of all rows.
func (w *work) whole() join.Join {
	plain := make([]*trie.Trie, len(w.views))
	for i, v := range w.views {
		plain[i] = v.all
	}
	return join.New(w.rule, plain, w.nots)
}

// partly gives the join in which the plain literal of this place is the first that has a fresh row. So what the joins of
// all places find together is all that has a fresh row, and nothing twice.
func (w *work) partly(place int) join.Join {
	plain := make([]*trie.Trie, len(w.views))
	for i, v := range w.views {
		switch {
		case i < place:
			plain[i] = v.before
		case i == place:
			plain[i] = v.fresh
		default:
			plain[i] = v.all
		}
	}
	return join.New(w.rule, plain, w.nots)
}

// renew lays the rows that came in a round before the rule.
func (w *work) renew(rows [][]trie.Row) {
	for i, v := range w.views {
		if v.lit.Pred >= 0 && v.lit.Pred < len(rows) {
			w.views[i].renew(rows[v.lit.Pred])
		}
	}
}
