package promises

import (
	"fmt"
	"math"
	"math/rand"
	"strings"
	"testing"

	"derive/api"
)

func TestP11Examples(t *testing.T) {
	s := "r(X,Y) :- e(X,Y)."
	for _, orders := range [][][]int{nil, {nil}, {{1, 0}}, {{0, 1}}} {
		wantOrders(t, s, orders, api.OK)
	}
	for _, orders := range [][][]int{{{0, 0}}, {{0, 1, 2}}, {{}}, {nil, nil}, {{0, 1}, {0, 1}}, {}} {
		wantOrders(t, s, orders, api.ErrOrder)
	}
}

// As many lists as clauses, facts too; one more, one less; none at all.
func TestP11HowManyLists(t *testing.T) {
	for _, s := range append(samples(), "p(a).", "p. q. r. s.", "p(X) :- q(X).", "p :- q. q :- r. r.") {
		n := compile(t, s).Clauses()
		wantOrders(t, s, nil, api.OK)
		for length := 0; length <= n+3; length++ {
			want := api.ErrOrder
			if length == n {
				want = api.OK
			}
			wantOrders(t, s, make([][]int, length), want)
		}
		wantOrders(t, s, make([][]int, 100000), api.ErrOrder)
	}
}

func TestP11TextsWithoutClauses(t *testing.T) {
	for _, s := range []string{"", " ", "\n \n"} {
		wantOrdersAt(t, s, nil, 0, 0, api.OK)
		wantOrdersAt(t, s, [][]int{}, 0, 0, api.OK)
		for _, orders := range [][][]int{{nil}, {{}}, {{0}}, {nil, nil}} {
			wantOrdersAt(t, s, orders, 0, 0, api.ErrOrder)
		}
	}
}

// An empty list of lists that is not nil is not nil, also if it lies in a longer one.
func TestP11AnEmptyListOfLists(t *testing.T) {
	long := [][]int{nil, nil, nil}
	for _, s := range []string{"p.", "p(X) :- q(X).", "p :- q.", "p. q. r."} {
		wantOrders(t, s, [][]int{}, api.ErrOrder)
		wantOrders(t, s, long[:0], api.ErrOrder)
		wantOrders(t, s, nil, api.OK)
	}
}

// A clause without variables: a fact, a rule of names and numbers, a rule without terms.
func TestP11ClausesWithoutVariables(t *testing.T) {
	for _, s := range []string{"p.", "p(a).", "p(a,b,1).", "p :- q.", "p :- !q.", "p(a) :- q(a,b), !r(1).", "p(k) :- !q."} {
		wantOrders(t, s, [][]int{nil}, api.OK)
		wantOrders(t, s, [][]int{{}}, api.OK)
		wantOrders(t, s, [][]int{make([]int, 0, 9)}, api.OK)
		for _, list := range [][]int{{0}, {-1}, {1}, {0, 0}, {0, 1}, {math.MinInt}, make([]int, 1000)} {
			wantOrders(t, s, [][]int{list}, api.ErrOrder)
		}
	}
}

// ruleOf gives a rule of so many variables.
func ruleOf(n int) string {
	var body []string
	for i := 0; i < n; i++ {
		body = append(body, "q("+"ABCDE"[i:i+1]+")")
	}
	return "p:-" + strings.Join(body, ",") + "."
}

// Of a clause of n variables all lists of few small numbers.
func TestP11AllSmallLists(t *testing.T) {
	for n := 1; n <= 3; n++ {
		for length := 0; length <= n+1; length++ {
			for _, list := range lists(length, -1, n+1) {
				want := api.ErrOrder
				if isOrder(list, n) {
					want = api.OK
				}
				wantOrders(t, ruleOf(n), [][]int{list}, want)
			}
		}
	}
}

// All orders of up to five variables, and each with one number changed, left out or put in.
func TestP11OrdersOfManyVariables(t *testing.T) {
	for n := 1; n <= api.MaxVars; n++ {
		s := ruleOf(n)
		for _, order := range permutations(n) {
			wantOrders(t, s, [][]int{order}, api.OK)
			for i := range order {
				for _, v := range []int{math.MinInt, -n, -1, order[(i+1)%n], n, n + 1, api.MaxVars, 1 << 32, math.MaxInt} {
					wrong := append([]int{}, order...)
					wrong[i] = v
					want := api.ErrOrder
					if v == order[i] {
						want = api.OK
					}
					wantOrders(t, s, [][]int{wrong}, want)
				}
				wantOrders(t, s, [][]int{append(append([]int{}, order[:i]...), order[i+1:]...)}, api.ErrOrder)
				wantOrders(t, s, [][]int{append(append([]int{}, order...), order[i])}, api.ErrOrder)
			}
			wantOrders(t, s, [][]int{append(append([]int{}, order...), n)}, api.ErrOrder)
			wantOrders(t, s, [][]int{append(append([]int{}, order...), -1)}, api.ErrOrder)
		}
	}
	wantOrders(t, ruleOf(5), [][]int{make([]int, 100000)}, api.ErrOrder)
}

// How many numbers an order has is how many variables Vars tells: each counts once, those of the head and of negated
// literals not once more, and names and numbers not at all.
func TestP11AsManyNumbersAsVars(t *testing.T) {
	for _, c := range []struct {
		s string
		n int
	}{
		{"p(X,X) :- q(X,X), r(X), !s(X,X,X).", 1},
		{"p(Y,X,Y) :- q(X,a,X), !r(Y,X), q(Y,1,X), !r(X,Y).", 2},
		{"p :- q(Z,Y,X), q(X,Y,Z), !r(Z,k).", 3},
		{"p(E,A) :- q(A,B), q(B,C), q(C,D), q(D,E), q(E,A), !q(C,A).", 5},
		{"p(a,b) :- q(c), r(X), !s(d).", 1},
	} {
		v, _ := compile(t, c.s).Vars(0)
		if len(v) != c.n {
			t.Fatalf("P7: Vars(0) of %q is %q", c.s, v)
		}
		for n := 0; n <= 7; n++ {
			want := api.ErrOrder
			if n == c.n {
				want = api.OK
			}
			wantOrders(t, c.s, [][]int{rand.New(rand.NewSource(5)).Perm(n)}, want)
		}
	}
}

// Each clause's list is held against that clause, and one that is wrong is enough.
func TestP11OrdersOfSeveralClauses(t *testing.T) {
	s := "e(a,b). r(X,Y) :- e(X,Y). o. t(X,Y,Z) :- e(X,Y), e(Y,Z), !o. u :- e(X,X)."
	good := [][]int{{}, {1, 0}, nil, {2, 0, 1}, {0}}
	wantOrders(t, s, good, api.OK)
	wrong := [][]int{{0}, {0}, {0}, {1, 0}, {}}
	for i := range good {
		with := copyOrders(good)
		with[i] = nil
		wantOrders(t, s, with, api.OK)
		with[i] = wrong[i]
		wantOrders(t, s, with, api.ErrOrder)
		with = make([][]int, len(good))
		with[i] = good[i]
		wantOrders(t, s, with, api.OK)
		with[i] = wrong[i]
		wantOrders(t, s, with, api.ErrOrder)
		wantOrders(t, s, append(copyOrders(good), good[i]), api.ErrOrder)
		wantOrders(t, s, append(copyOrders(good[:i]), good[i+1:]...), api.ErrOrder)
	}
	wantOrders(t, s, [][]int{{1, 0}, {}, nil, {2, 0, 1}, {0}}, api.ErrOrder)
	wantOrders(t, s, [][]int{{}, {2, 0, 1}, nil, {1, 0}, {0}}, api.ErrOrder)
}

func TestP11ErrorsInTheirOrder(t *testing.T) {
	s := "e(a,b). r(X,Y) :- e(X,Y)."
	over := api.MaxLimit + 1
	for _, wrong := range [][][]int{{}, {nil}, {nil, nil, nil}, {{0}, nil}, {nil, {0, 0}}, {nil, {0, 2}}, {nil, {-1, 0}}, {nil, {0}}, {nil, {0, 1, 2}}} {
		for _, limits := range [][2]int{{-1, 9}, {9, -1}, {over, 9}, {9, over}, {-1, over}, {math.MinInt, 0}, {0, math.MaxInt}} {
			wantOrdersAt(t, s, wrong, limits[0], limits[1], api.ErrArg)
		}
		for _, limits := range [][2]int{{0, 0}, {0, 9}, {1, 9}, {9, 0}, {9, 1}, {9, 9}, {api.MaxLimit, api.MaxLimit}} {
			wantOrdersAt(t, s, wrong, limits[0], limits[1], api.ErrOrder)
		}
	}
	good := [][]int{{}, {1, 0}}
	wantOrdersAt(t, s, good, 2, 2, api.OK)
	wantOrdersAt(t, s, good, 1, 2, api.ErrLimit)
	wantOrdersAt(t, s, good, 2, 1, api.ErrLimit)
	wantOrdersAt(t, s, good, -1, 2, api.ErrArg)
}

// Whatever the orders of a triangle with a negated literal: the same rows in the same rounds.
func TestP11EveryOrderOfOneRule(t *testing.T) {
	facts := "e(a,b). e(b,c). e(c,a). e(c,c). e(b,d). e(d,b). f(c). "
	for _, rule := range []string{
		"t(X,Y,Z) :- e(X,Y), e(Y,Z), e(Z,X), !g(Y,X). g(Y,X) :- e(X,Y), f(X).",
		"p(Z) :- e(X,Y), e(Y,Z), e(Z,V), !e(V,X), !f(Y).",
		"p(X,W) :- e(X,Y), e(Y,Z), e(Z,V), e(V,W), !e(X,Z), !e(W,W).",
		"p(W) :- e(W,X), f(Y), f(Z), f(V), !e(V,W), !e(X,X).",
		"p(c,V) :- e(X,X), e(Y,Y), e(c,V), !f(V).",
		"p(X,Y) :- e(X,Y). p(X,Z) :- p(X,Y), p(Y,Z), e(V,Z), e(X,W).",
	} {
		s := facts + rule
		p := compile(t, s)
		first, e := p.Run(nil, 4096, 4096)
		if e != api.OK {
			t.Fatalf("P8: Run of %q = %d", s, e)
		}
		compareRun(t, s)
		want := toldButMoves(first, p.Preds())
		for i := 0; i < p.Clauses(); i++ {
			v, _ := p.Vars(i)
			for _, order := range permutations(len(v)) {
				orders := make([][]int, p.Clauses())
				orders[i] = order
				r, e := p.Run(orders, 4096, 4096)
				if e != api.OK {
					t.Fatalf("P11: Run(%v) of %q = %d", orders, s, e)
				}
				if got := toldButMoves(r, p.Preds()); got != want {
					t.Errorf("P11: of %q with %v:\n%s\nwant:\n%s", s, orders, got, want)
				}
			}
		}
	}
}

// With orders of all kinds, what follows is what the oracle says, which knows of no orders; and so are the limits.
func TestP11AgainstTheOracle(t *testing.T) {
	w := ruleWriter{r: rand.New(rand.NewSource(11))}
	done := 0
	for done < 1500 {
		s := w.text()
		o, e := consult(s)
		if e != api.OK {
			continue
		}
		done++
		f := follow(o)
		p := compile(t, s)
		for n := 0; n < 3; n++ {
			orders := anyOrders(w.r, p)
			r, e := p.Run(orders, f.count(), f.rounds)
			if e != api.OK || r == nil {
				t.Fatalf("P11: Run(%v, %d, %d) of %q = %d, want a result", orders, f.count(), f.rounds, s, e)
			}
			compareResult(t, s, o, f, r)
			if f.count() > 0 {
				wantOrdersAt(t, s, orders, f.count()-1, f.rounds, api.ErrLimit)
			}
			if f.rounds > 0 {
				wantOrdersAt(t, s, orders, f.count(), f.rounds-1, api.ErrLimit)
			}
		}
	}
}

// A nil list is the order of Vars, and so is nil for all: not even moves tell them apart.
func TestP11NilIsTheOrderOfVars(t *testing.T) {
	for _, s := range append(samples(), star(9), one(30, 7)) {
		p := compile(t, s)
		first, _ := p.Run(nil, 4096, 4096)
		want := toldRun(first, p.Preds())
		for k := 0; k < 3; k++ {
			orders := make([][]int, p.Clauses())
			for i := range orders {
				v, _ := p.Vars(i)
				if k == 1 || (k == 2 && i%2 == 0) {
					orders[i] = make([]int, len(v))
					for n := range v {
						orders[i][n] = n
					}
				}
			}
			r, e := p.Run(orders, 4096, 4096)
			if e != api.OK {
				t.Fatalf("P11: Run(%v) of %q = %d", orders, s, e)
			}
			if got := toldRun(r, p.Preds()); got != want {
				t.Errorf("P11: of %q with %v:\n%s\nwant:\n%s", s, orders, got, want)
			}
		}
	}
}

// The numbers of an order are those of Vars, the first that of the variable to begin with: with the one that g has there is
// little to look at, with another there is a lot.
func TestP11RulesAreJoinedInTheirOrder(t *testing.T) {
	facts := "g(k)."
	for i := 0; i < 30; i++ {
		facts += fmt.Sprintf("e(%d,%d).", i, i/2)
	}
	for _, c := range []struct {
		rule        string
		quick, slow []int
	}{
		{"p(X):-e(X,Y),g(Y).", []int{1, 0}, []int{0, 1}},
		{"p(X):-g(Y),e(X,Y).", []int{0, 1}, []int{1, 0}},
		{"p(B):-g(A),e(B,A).", []int{0, 1}, []int{1, 0}},
		{"p(X):-e(X,Y),e(Y,Z),g(Z).", []int{2, 0, 1}, []int{1, 2, 0}},
	} {
		p := compile(t, facts+c.rule)
		moves := func(order []int) int {
			orders := make([][]int, p.Clauses())
			orders[len(orders)-1] = order
			r, e := p.Run(orders, 4096, 4096)
			if e != api.OK {
				t.Fatalf("P11: Run(%v) of %q = %d", orders, facts+c.rule, e)
			}
			_, _, n := r.Counts()
			return n
		}
		if quick, slow := moves(c.quick), moves(c.slow); quick > 8 || slow < 30 {
			t.Errorf("P11: %s takes %d moves in the order %v, %d in the order %v", c.rule, quick, c.quick, slow, c.slow)
		}
	}
}
