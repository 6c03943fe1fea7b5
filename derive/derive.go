// Package derive: facts, rules, and what follows from them: see DOC.md.
package derive

import (
	"derive/api"
	"derive/check"
	"derive/clauses"
	"derive/consts"
	"derive/preds"
	"derive/rules"
	"derive/runs"
	"derive/words"
)

// Program is a text that is one.
type Program struct {
	clauses []clauses.Clause
	preds   preds.Table
}

// Compile reads a text (P3 to P6).
func Compile(s string) (*Program, api.Errno) {
	if len(s) > api.MaxText {
		return nil, api.ErrLong
	}
	found, ok := words.Split(s)
	if !ok {
		return nil, api.ErrLex
	}
	list, ok := clauses.Parse(found)
	if !ok {
		return nil, api.ErrParse
	}
	if check.Many(list) {
		return nil, api.ErrMany
	}
	table, ok := preds.Collect(list)
	if !ok {
		return nil, api.ErrArity
	}
	if !check.Safe(list) {
		return nil, api.ErrSafe
	}
	if !table.Stratify(list) {
		return nil, api.ErrStrata
	}
	return &Program{clauses: list, preds: table}, api.OK
}

// Preds tells the predicates' names (P7).
func (p *Program) Preds() []string { return p.preds.Names() }

// Stratum tells a predicate's stratum (P7).
func (p *Program) Stratum(pred string) (int, api.Errno) {
	n, ok := p.preds.Stratum(pred)
	if !ok {
		return 0, api.ErrPred
	}
	return n, api.OK
}

// Clauses tells how many clauses there are (P7).
func (p *Program) Clauses() int { return len(p.clauses) }

// Clause tells a clause's literals, the head the first (P7).
func (p *Program) Clause(i int) ([]api.Lit, api.Errno) {
	if i < 0 || i >= len(p.clauses) {
		return nil, api.ErrPred
	}
	return p.clauses[i].Lits(), api.OK
}

// Vars tells a clause's variables (P7).
func (p *Program) Vars(i int) ([]string, api.Errno) {
	if i < 0 || i >= len(p.clauses) {
		return nil, api.ErrPred
	}
	v := p.clauses[i].Plain()
	return v.Names(), api.OK
}

// Text writes the program anew (P7).
func (p *Program) Text() string {
	s := ""
	for _, c := range p.clauses {
		s += c.Text() + "\n"
	}
	return s
}

// Run works out what follows (P8). The orders are those in which the clauses' variables are joined (P11).
func (p *Program) Run(orders [][]int, rows int, rounds int) (*Result, api.Errno) {
	if rows < 0 || rows > api.MaxLimit || rounds < 0 || rounds > api.MaxLimit {
		return nil, api.ErrArg
	}
	if !check.Orders(p.clauses, orders) {
		return nil, api.ErrOrder
	}
	values := consts.Collect(p.clauses)
	set := rules.Make(p.clauses, &p.preds, &values, orders)
	out, ok := runs.Run(set, rows, rounds)
	if !ok {
		return nil, api.ErrLimit
	}
	return &Result{preds: p.preds, values: values, out: out}, api.OK
}
