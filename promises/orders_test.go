package promises

import (
	"fmt"
	"math/rand"
	"testing"

	"derive/api"
	"derive/derive"
)

// wantOrders asks for one error of Run with these orders, and, as P1 says, for a result with OK alone.
func wantOrders(t *testing.T, s string, orders [][]int, want api.Errno) {
	t.Helper()
	wantOrdersAt(t, s, orders, 4096, 4096, want)
}

func wantOrdersAt(t *testing.T, s string, orders [][]int, rows, rounds int, want api.Errno) {
	t.Helper()
	r, e := compile(t, s).Run(orders, rows, rounds)
	if e != want {
		t.Errorf("P11: Run(%s, %d, %d) of %q = %d, want %d", ordersText(orders), rows, rounds, s, e, want)
	}
	if (r != nil) != (e == api.OK) {
		t.Errorf("P1: Run(%s, %d, %d) of %q = %d, with a result: %v", ordersText(orders), rows, rounds, s, e, r != nil)
	}
}

// ordersText tells a nil list from an empty one.
func ordersText(orders [][]int) string { return fmt.Sprintf("%#v", orders) }

// permutations gives all orders of n variables.
func permutations(n int) [][]int {
	if n == 0 {
		return [][]int{{}}
	}
	var list [][]int
	for _, shorter := range permutations(n - 1) {
		for i := 0; i < n; i++ {
			order := append([]int{}, shorter[:i]...)
			order = append(order, n-1)
			list = append(list, append(order, shorter[i:]...))
		}
	}
	return list
}

// lists gives all lists of so many numbers, each from low to high.
func lists(length, low, high int) [][]int {
	if length == 0 {
		return [][]int{{}}
	}
	var list [][]int
	for _, shorter := range lists(length-1, low, high) {
		for n := low; n <= high; n++ {
			list = append(list, append(append([]int{}, shorter...), n))
		}
	}
	return list
}

// isOrder takes P11 by its words: each of the numbers 0 to n - 1 just once.
func isOrder(list []int, n int) bool {
	for k := 0; k < n; k++ {
		times := 0
		for _, v := range list {
			if v == k {
				times++
			}
		}
		if times != 1 {
			return false
		}
	}
	return len(list) == n
}

// anyOrders gives for each clause some order, or nil.
func anyOrders(r *rand.Rand, p *derive.Program) [][]int {
	orders := make([][]int, p.Clauses())
	for i := range orders {
		v, _ := p.Vars(i)
		if r.Intn(4) > 0 {
			orders[i] = r.Perm(len(v))
		}
	}
	return orders
}

// copyOrders has lists of its own.
func copyOrders(orders [][]int) [][]int {
	if orders == nil {
		return nil
	}
	list := make([][]int, len(orders))
	for i, order := range orders {
		if order != nil {
			list[i] = append([]int{}, order...)
		}
	}
	return list
}

// toldButMoves writes down all that a result tells, but for the third number of Counts.
func toldButMoves(r *derive.Result, preds []string) string {
	rows, rounds, _ := r.Counts()
	return fmt.Sprintf("%d %d\n", rows, rounds) + toldRows(r, preds)
}
