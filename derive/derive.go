// Package derive: facts, rules, and what follows from them: see DOC.md.
package derive

import (
	"derive/api"
	"derive/check"
	"derive/clauses"
	"derive/preds"
	"derive/words"
)

// Program is a text that is one.
type Program struct {
	clauses []clauses.Clause
	preds   preds.Table
}

// Compile reads a text (P3 to P6).
func Compile(s string) (*Program, api.Errno) {
	if len(s) > api.MaxText {
		return nil, api.ErrLong
	}
	found, ok := words.Split(s)
	if !ok {
		return nil, api.ErrLex
	}
	list, ok := clauses.Parse(found)
	if !ok {
		return nil, api.ErrParse
	}
	if check.Many(list) {
		return nil, api.ErrMany
	}
	table, ok := preds.Collect(list)
	if !ok {
		return nil, api.ErrArity
	}
	if !check.Safe(list) {
		return nil, api.ErrSafe
	}
	if !table.Stratify(list) {
		return nil, api.ErrStrata
	}
	return &Program{clauses: list, preds: table}, api.OK
}

// Preds tells the predicates' names (P7).
func (p *Program) Preds() []string { return p.preds.Names() }

// Stratum tells a predicate's stratum (P7).
func (p *Program) Stratum(pred string) (int, api.Errno) {
	n, ok := p.preds.Stratum(pred)
	if !ok {
		return 0, api.ErrPred
	}
	return n, api.OK
}

// Clauses tells how many clauses there are (P7).
func (p *Program) Clauses() int { return len(p.clauses) }

// Clause tells a clause's literals, the head the first (P7).
func (p *Program) Clause(i int) ([]api.Lit, api.Errno) {
	if i < 0 || i >= len(p.clauses) {
		return nil, api.ErrPred
	}
	return p.clauses[i].Lits(), api.OK
}

// Vars tells a clause's variables (P7).
func (p *Program) Vars(i int) ([]string, api.Errno) {
	if i < 0 || i >= len(p.clauses) {
		return nil, api.ErrPred
	}
	v := p.clauses[i].Plain()
	return v.Names(), api.OK
}

// Text writes the program anew (P7).
func (p *Program) Text() string {
	s := ""
	for _, c := range p.clauses {
		s += c.Text() + "\n"
	}
	return s
}

// Result is what follows.
type Result struct{}

// Run works out what follows (P8, P11).
func (p *Program) Run(orders [][]int, rows int, rounds int) (*Result, api.Errno) {
	return nil, api.OK
}

// Rows tells the rows of a predicate (P9).
func (r *Result) Rows(pred string) ([][]string, api.Errno) { return nil, api.OK }

// When tells the round in which a row came (P10).
func (r *Result) When(pred string, row []string) (int, api.Errno) { return 0, api.OK }

// Counts tells how many rows, rounds and moves there were (P10, P12).
func (r *Result) Counts() (int, int, int) { return 0, 0, 0 }
