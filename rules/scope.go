package rules

import (
	"derive/api"
	"derive/clauses"
)

// scope has the variables of a clause, and tells where each stands in the order in which they are joined.
type scope struct {
	vars   clauses.Vars
	places [api.MaxVars]int // for each variable, by its number (P7), its place in the order
}

// scopeOf turns an order around: it has the variables' numbers by their places. A nil order is that of the numbers.
func scopeOf(c clauses.Clause, order []int) scope {
	s := scope{vars: c.Plain()}
	for number := range s.places {
		s.places[number] = number
	}
	for place, number := range order {
		if number >= 0 && number < len(s.places) {
			s.places[number] = place
		}
	}
	return s
}

func (s *scope) place(name string) int {
	number, ok := s.vars.Place(name)
	if !ok || number >= len(s.places) {
		return 0
	}
	return s.places[number]
}
