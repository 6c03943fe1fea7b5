// Package preds knows the predicates of a text: their names, how many terms they have (ErrArity), and their strata (P6).
package preds

import (
	"derive/api"
	"derive/clauses"
)

type pred struct {
	name    string
	arity   int
	stratum int
}

// Table holds the predicates of a text, rising by their names.
type Table struct {
	preds []pred
}

// Collect gives the predicates of the clauses. It is false if one stands with now so many terms, now so many others.
func Collect(list []clauses.Clause) (Table, bool) {
	var t Table
	for _, c := range list {
		if !t.add(c.Head) {
			return Table{}, false
		}
		for _, l := range c.Body {
			if !t.add(l) {
				return Table{}, false
			}
		}
	}
	return t, true
}

func (t *Table) add(l api.Lit) bool {
	i := t.place(l.Pred)
	if i < len(t.preds) && t.preds[i].name == l.Pred {
		return t.preds[i].arity == len(l.Args)
	}
	t.insert(i, pred{name: l.Pred, arity: len(l.Args)})
	return true
}

// place tells where a name stands, or where it would have to stand.
func (t *Table) place(name string) int {
	i := 0
	for i < len(t.preds) && t.preds[i].name < name {
		i++
	}
	return i
}

func (t *Table) insert(i int, p pred) {
	t.preds = append(t.preds, p)
	for k := len(t.preds) - 1; k > i && k > 0; k-- {
		t.preds[k] = t.preds[k-1]
		t.preds[k-1] = p
	}
}

// Names gives the names in a fresh list.
func (t *Table) Names() []string {
	list := make([]string, len(t.preds))
	for i, p := range t.preds {
		list[i] = p.name
	}
	return list
}

// Count tells how many predicates there are.
func (t *Table) Count() int { return len(t.preds) }

// Find tells a predicate's number, which is its place. It is false if there is no such predicate.
func (t *Table) Find(name string) (int, bool) {
	i := t.place(name)
	if i >= len(t.preds) || t.preds[i].name != name {
		return 0, false
	}
	return i, true
}

// Arity tells how many terms the predicate of a number has.
func (t *Table) Arity(i int) int {
	if i < 0 || i >= len(t.preds) {
		return 0
	}
	return t.preds[i].arity
}

// Stratum tells a predicate's stratum. It is false if there is no such predicate.
func (t *Table) Stratum(name string) (int, bool) {
	i, ok := t.Find(name)
	if !ok {
		return 0, false
	}
	return t.preds[i].stratum, true
}
