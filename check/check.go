// Package check looks for what a clause may not have: too much of something (ErrMany), a variable that nothing binds
// (ErrSafe), an order that is none of its variables (ErrOrder).
package check

import (
	"derive/api"
	"derive/clauses"
)

// Many tells whether some clause has too many terms, literals or variables.
func Many(list []clauses.Clause) bool {
	for _, c := range list {
		if manyIn(c) {
			return true
		}
	}
	return false
}

func manyIn(c clauses.Clause) bool {
	if len(c.Head.Args) > api.MaxArity || len(c.Body) > api.MaxBody {
		return true
	}
	for _, l := range c.Body {
		if len(l.Args) > api.MaxArity {
			return true
		}
	}
	v := c.All()
	return v.Count() > api.MaxVars
}

// Safe tells whether in every clause the variables of the head and of the negated literals stand in plain literals too.
func Safe(list []clauses.Clause) bool {
	for _, c := range list {
		if !safeIn(c) {
			return false
		}
	}
	return true
}

func safeIn(c clauses.Clause) bool {
	v := c.Plain()
	if !v.Cover(c.Head) {
		return false
	}
	for _, l := range c.Body {
		if l.Not && !v.Cover(l) {
			return false
		}
	}
	return true
}
