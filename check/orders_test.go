package check

import "testing"

func TestOrders(t *testing.T) {
	list := parse(t, "e(a,b). r(X,Y) :- e(X,Y). t(E,A) :- e(A,B), e(B,C), e(C,D), e(D,E), !e(A,D).")
	for _, orders := range [][][]int{
		nil,
		{nil, nil, nil},
		{{}, {0, 1}, {0, 1, 2, 3, 4}},
		{nil, {1, 0}, {4, 2, 0, 3, 1}},
		{{}, nil, {4, 3, 2, 1, 0}},
	} {
		if !Orders(list, orders) {
			t.Errorf("%#v are orders", orders)
		}
	}
	for _, orders := range [][][]int{
		{},
		{nil, nil},
		{nil, nil, nil, nil},
		{{0}, nil, nil},
		{nil, {}, nil},
		{nil, {0}, nil},
		{nil, {0, 0}, nil},
		{nil, {1, 1}, nil},
		{nil, {0, 2}, nil},
		{nil, {-1, 0}, nil},
		{nil, {0, 1, 2}, nil},
		{nil, nil, {0, 1, 2, 3}},
		{nil, nil, {0, 1, 2, 3, 3}},
		{nil, nil, {0, 1, 2, 3, 5}},
		{nil, nil, {0, 1, 2, 3, 4, 5}},
	} {
		if Orders(list, orders) {
			t.Errorf("%#v are no orders", orders)
		}
	}
	if !Orders(nil, nil) || !Orders(nil, [][]int{}) || Orders(nil, [][]int{nil}) {
		t.Error("of no clauses there are no orders alone")
	}
}
