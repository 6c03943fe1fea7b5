// Package consts gives the names and numbers that stand as terms in a text values to reckon with: 0, 1, .., rising as they do.
package consts

import (
	"derive/api"
	"derive/clauses"
)

// Table holds the terms that are no variables, each once, rising by their bytes. A term's value is its place.
type Table struct {
	names []string
}

// Collect gives the terms of the clauses.
func Collect(list []clauses.Clause) Table {
	var t Table
	for _, c := range list {
		t.add(c.Head)
		for _, l := range c.Body {
			t.add(l)
		}
	}
	return t
}

func (t *Table) add(l api.Lit) {
	for _, term := range l.Args {
		if !clauses.IsVariable(term) {
			t.insert(term)
		}
	}
}

func (t *Table) insert(name string) {
	i := t.place(name)
	if i < len(t.names) && t.names[i] == name {
		return
	}
	t.names = append(t.names, name)
	for k := len(t.names) - 1; k > i && k > 0; k-- {
		t.names[k] = t.names[k-1]
		t.names[k-1] = name
	}
}

// place tells where a name stands, or where it would have to stand.
func (t *Table) place(name string) int {
	low, high := 0, len(t.names)
	for low < high {
		mid := low + (high-low)/2
		if t.names[mid] < name {
			low = mid + 1
		} else {
			high = mid
		}
	}
	return low
}

// Count tells how many values there are.
func (t *Table) Count() int { return len(t.names) }

// Value tells the value of a name or number. It is false if the text has no such term.
func (t *Table) Value(name string) (int, bool) {
	i := t.place(name)
	if i >= len(t.names) || t.names[i] != name {
		return 0, false
	}
	return i, true
}

// Name tells what a value stands for. It is empty if there is no such value.
func (t *Table) Name(value int) string {
	if value < 0 || value >= len(t.names) {
		return ""
	}
	return t.names[value]
}
