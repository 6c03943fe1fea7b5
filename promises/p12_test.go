package promises

import (
	"fmt"
	"math/rand"
	"strings"
	"testing"

	"derive/api"
)

// one is the text of the first bound: n facts f, of which g has the k-th.
func one(n, k int) string {
	s := ""
	for i := 0; i < n; i++ {
		s += fmt.Sprintf("f(%02d).", i)
	}
	return s + fmt.Sprintf("g(%02d).p(X):-f(X),g(X).", k)
}

// star is the text of the second bound: n nodes, steps from the first to each other and back, and one step more.
func star(n int) string {
	s := ""
	for i := 1; i < n; i++ {
		s += fmt.Sprintf("e(00,%02d).e(%02d,00).", i, i)
	}
	return s + "e(01,02).t(X,Y,Z):-e(X,Y),e(Y,Z),e(Z,X)."
}

// movesOf runs a text with these orders, and asks that the predicate has so many rows.
func movesOf(t *testing.T, s string, orders [][]int, pred string, rows int) int {
	t.Helper()
	r, e := compile(t, s).Run(orders, 4096, 4096)
	if e != api.OK || r == nil {
		t.Fatalf("P8: Run of %q = %d", s, e)
	}
	list, _ := r.Rows(pred)
	if len(list) != rows {
		t.Errorf("P9: of %q Rows(%q) = %s, want %d rows", s, pred, rowsText(list), rows)
	}
	_, _, moves := r.Counts()
	return moves
}

func wantMoves(t *testing.T, s, pred string, rows, least, most int) {
	t.Helper()
	if n := movesOf(t, s, nil, pred, rows); n < least || n > most {
		t.Errorf("P12: of %q there are %d moves, want %d to %d", s, n, least, most)
	}
}

func TestP12OneOfMany(t *testing.T) {
	for n := 1; n <= 70; n++ {
		for k := 0; k < n; k++ {
			wantMoves(t, one(n, k), "p", 1, 1, 8)
		}
	}
}

func TestP12Triangles(t *testing.T) {
	for n := 3; n <= 23; n++ {
		wantMoves(t, star(n), "t", 3, n, 20*n)
	}
}

// The bounds hold wherever the clauses stand in the text.
func TestP12ClausesInAnyOrder(t *testing.T) {
	r := rand.New(rand.NewSource(12))
	for n := 0; n < 50; n++ {
		wantMoves(t, shuffled(r, one(70, n)), "p", 1, 1, 8)
		wantMoves(t, shuffled(r, star(23)), "t", 3, 23, 460)
	}
}

func shuffled(r *rand.Rand, s string) string {
	list := strings.SplitAfter(strings.TrimSuffix(s, "."), ".")
	list[len(list)-1] += "."
	r.Shuffle(len(list), func(i, k int) { list[i], list[k] = list[k], list[i] })
	return strings.Join(list, "")
}

// A round has to look only for what the round ahead made new: n rounds of a way of n steps take some n moves, not n times n.
func TestP12LaterRoundsLookForWhatIsNew(t *testing.T) {
	for _, rule := range []string{"r(Y):-r(X),s(X,Y).", "r(Y):-s(X,Y),r(X)."} {
		for _, n := range []int{3, 10, 40} {
			s := "r(00)."
			for i := 0; i < n; i++ {
				s += fmt.Sprintf("s(%02d,%02d).", i, i+1)
			}
			wantMoves(t, s+rule, "r", n+1, n, 8*(n+1))
		}
	}
	// A rule that hangs on facts alone has nothing to look for behind its first round, however many rounds there are.
	way := "s(a,b).s(b,c).s(c,d).s(d,e).r(a).r(Y):-r(X),s(X,Y)."
	alone := movesOf(t, way, nil, "r", 5)
	facts := "f(1).f(2).f(3).f(4).f(5).p(X,Y):-f(X),f(Y)."
	pairs := movesOf(t, facts, nil, "p", 25)
	if both := movesOf(t, way+facts, nil, "p", 25); both != alone+pairs {
		t.Errorf("P12: %d moves and %d moves are %d together", alone, pairs, both)
	}
}

// To look for a negated literal's row is no move.
func TestP12NegatedLiterals(t *testing.T) {
	facts := "f(1).f(2).f(3).f(4).f(5).h(1,3).h(7,1).h(7,2)."
	for _, c := range []struct{ with, without string }{
		{"p(X):-f(X),!h(X,X).", "p(X):-f(X)."},
		{"p(X):-!h(X,7),f(X),!h(X,X),!n(X),!n(2).", "p(X):-f(X)."},
	} {
		if a, b := movesOf(t, facts+c.with, nil, "p", 5), movesOf(t, facts+c.without, nil, "p", 5); a != b {
			t.Errorf("P12: of %q there are %d moves, of %q %d", c.with, a, c.without, b)
		}
	}
	if n := movesOf(t, "p:-!q.r:-!s(a),!s(b).", nil, "p", 1); n != 0 {
		t.Errorf("P12: there are %d moves with nothing to join", n)
	}
}

func TestP12NothingToJoin(t *testing.T) {
	for _, s := range []string{"", "p.", "p(a). p(b). q(a,b,c).", "p :- !q."} {
		if _, _, moves := run(t, s).Counts(); moves != 0 {
			t.Errorf("P12: of %q there are %d moves, want 0", s, moves)
		}
	}
}

// A row that a rule says takes a move at least for each variable that has a value of its own in it.
func TestP12AtLeastAMoveForEachRow(t *testing.T) {
	facts := ""
	for n := 1; n <= 40; n++ {
		facts += fmt.Sprintf("f(%d).", n)
		wantMoves(t, facts+"p(X):-f(X).", "p", n, n, 2*n+1)
		if n <= 8 {
			wantMoves(t, facts+"p(X,Y):-f(X),f(Y).", "p", n*n, n*n, 2*n*n+2*n+1)
		}
	}
}

// The same run makes the same moves, whatever was run between, and 0 or more of them, with orders or without.
func TestP12TheSameAgain(t *testing.T) {
	r := rand.New(rand.NewSource(13))
	for _, s := range append(samples(), star(23), one(70, 33)) {
		p := compile(t, s)
		for n := 0; n < 5; n++ {
			var orders [][]int
			if n > 0 {
				orders = anyOrders(r, p)
			}
			first, e := p.Run(orders, 4096, 4096)
			if e != api.OK {
				t.Fatalf("P11: Run(%v) of %q = %d", orders, s, e)
			}
			_, _, want := first.Counts()
			p.Run(anyOrders(r, p), 4096, 4096)
			p.Run(anyOrders(r, p), 1, 1)
			second, _ := compile(t, s).Run(copyOrders(orders), api.MaxLimit, api.MaxLimit)
			third, _ := p.Run(orders, 4096, 4096)
			_, _, b := second.Counts()
			_, _, c := third.Counts()
			_, _, a := first.Counts()
			if want < 0 || a != want || b != want || c != want {
				t.Errorf("P12: of %q with %v: %d moves, then %d, %d and %d", s, orders, want, a, b, c)
			}
		}
	}
}
