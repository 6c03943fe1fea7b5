package rules

import (
	"derive/api"
	"derive/clauses"
	"derive/consts"
	"derive/preds"
	"derive/trie"
)

// Fact is a row that is there from the beginning.
type Fact struct {
	Pred int
	Row  trie.Row
}

// Rule says rows of its head's predicate.
type Rule struct {
	Stratum int // of the head
	Vars    int // how many variables it has
	Head    Lit
	Plain   []Lit
	Not     []Lit
}

// Back tells where to go on when, with the first so many variables as they are, all is said that can be said: at the
// last of them that the head has, or that a literal has together with one of the variables behind them. With other values
// of those behind that one the rule would but say the same once more. It is -1 if there is none.
func (r Rule) Back(known int) int {
	back := r.Head.lastOf(known)
	for _, l := range r.Plain {
		tied := l.tied(known)
		if tied > back {
			back = tied
		}
	}
	for _, l := range r.Not {
		tied := l.tied(known)
		if tied > back {
			back = tied
		}
	}
	return back
}

// Set is a text in numbers.
type Set struct {
	Width   int   // how many values there are
	Arities []int // of each predicate
	Facts   []Fact
	Rules   []Rule
}

// maker has at hand what gives the numbers.
type maker struct {
	preds  *preds.Table
	values *consts.Table
}

// Make puts the clauses of a text into numbers. The orders are those in which the clauses' variables are joined (P11).
func Make(list []clauses.Clause, names *preds.Table, values *consts.Table, orders [][]int) Set {
	m := maker{preds: names, values: values}
	s := Set{Width: values.Count(), Arities: make([]int, names.Count())}
	for i := range s.Arities {
		s.Arities[i] = names.Arity(i)
	}
	for i, c := range list {
		if len(c.Body) > 0 {
			order := orderAt(orders, i)
			r := m.rule(c, order)
			s.Rules = append(s.Rules, r)
		} else {
			f := m.fact(c)
			s.Facts = append(s.Facts, f)
		}
	}
	return s
}

// orderAt gives the order of a clause. It is nil, that of Vars, where none is told.
func orderAt(orders [][]int, i int) []int {
	if i < 0 || i >= len(orders) {
		return nil
	}
	return orders[i]
}

// fact takes the head at no values: a fact has no variables.
func (m *maker) fact(c clauses.Clause) Fact {
	var none scope
	head := m.lit(c.Head, &none)
	return Fact{Pred: head.Pred, Row: head.Row(Values{})}
}

func (m *maker) rule(c clauses.Clause, order []int) Rule {
	s := scopeOf(c, order)
	stratum, _ := m.preds.Stratum(c.Head.Pred)
	r := Rule{Stratum: stratum, Vars: s.vars.Count()}
	r.Head = m.lit(c.Head, &s)
	for _, b := range c.Body {
		l := m.lit(b, &s)
		if b.Not {
			r.Not = append(r.Not, l)
		} else {
			r.Plain = append(r.Plain, l)
		}
	}
	return r
}

func (m *maker) lit(l api.Lit, s *scope) Lit {
	number, _ := m.preds.Find(l.Pred)
	out := Lit{Pred: number, Terms: make([]Term, len(l.Args))}
	for i, term := range l.Args {
		out.Terms[i] = m.term(term, s)
	}
	for i, t := range out.Terms {
		if t.Var {
			level, _ := out.Level(t.Num)
			out.Terms[i].Level = level
		}
	}
	return out
}

func (m *maker) term(term string, s *scope) Term {
	if clauses.IsVariable(term) {
		return Term{Var: true, Num: s.place(term)}
	}
	value, _ := m.values.Value(term)
	return Term{Num: value}
}
