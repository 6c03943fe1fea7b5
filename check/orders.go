package check

import (
	"derive/api"
	"derive/clauses"
)

// Orders tells whether these are orders of the clauses' variables (P11): none at all, or one for each clause.
func Orders(list []clauses.Clause, orders [][]int) bool {
	if orders == nil {
		return true
	}
	if len(orders) != len(list) {
		return false
	}
	for i, c := range list {
		if !orderOf(c, orders[i]) {
			return false
		}
	}
	return true
}

func orderOf(c clauses.Clause, order []int) bool {
	if order == nil {
		return true
	}
	v := c.Plain()
	if len(order) != v.Count() {
		return false
	}
	return eachOnce(order)
}

// eachOnce tells whether the numbers from 0 up stand in the list, as many as it is long, each just once.
func eachOnce(order []int) bool {
	var seen [api.MaxVars]bool
	for _, n := range order {
		if n < 0 || n >= len(order) || n >= len(seen) {
			return false
		}
		if seen[n] {
			return false
		}
		seen[n] = true
	}
	return true
}
