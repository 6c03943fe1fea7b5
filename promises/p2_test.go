package promises

import (
	"fmt"
	"math/rand"
	"testing"

	"derive/api"
	"derive/derive"
)

// spoil asks for every list and writes into all of it, and behind it.
func spoil(p *derive.Program) {
	spoilStrings(p.Preds())
	for i := 0; i < p.Clauses(); i++ {
		v, _ := p.Vars(i)
		spoilStrings(v)
		c, _ := p.Clause(i)
		for k := range c {
			spoilStrings(c[k].Args)
			c[k] = api.Lit{Not: !c[k].Not, Pred: "mine", Args: []string{"mine"}}
		}
		full := c[:cap(c)]
		for k := range full {
			full[k] = api.Lit{Pred: "mine"}
		}
	}
}

// spoilRun asks for the rows of every predicate and writes into all of them, and behind them.
func spoilRun(r *derive.Result, preds []string) {
	for _, name := range preds {
		rows, _ := r.Rows(name)
		for i := range rows {
			spoilStrings(rows[i])
		}
		full := rows[:cap(rows)]
		for i := range full {
			full[i] = []string{"mine"}
		}
	}
}

func spoilStrings(list []string) {
	full := list[:cap(list)]
	for i := range full {
		full[i] = "mine"
	}
}

func TestP2NothingHangsOnWhatTheCallerWrites(t *testing.T) {
	for _, s := range samples() {
		p := compile(t, s)
		before := told(p)
		for n := 0; n < 3; n++ {
			spoil(p)
			if after := told(p); after != before {
				t.Fatalf("P2: of %q:\n%s\nbehind what the caller wrote:\n%s", s, before, after)
			}
		}
	}
}

func TestP2NoSpareRoom(t *testing.T) {
	for _, s := range samples() {
		p := compile(t, s)
		if l := p.Preds(); cap(l) != len(l) {
			t.Errorf("P2: of %q: Preds has %d names and room for %d", s, len(l), cap(l))
		}
		for i := 0; i < p.Clauses(); i++ {
			if v, _ := p.Vars(i); cap(v) != len(v) {
				t.Errorf("P2: of %q: Vars(%d) has %d names and room for %d", s, i, len(v), cap(v))
			}
			c, _ := p.Clause(i)
			if cap(c) != len(c) {
				t.Errorf("P2: of %q: Clause(%d) has %d literals and room for %d", s, i, len(c), cap(c))
			}
			for k, l := range c {
				if cap(l.Args) != len(l.Args) {
					t.Errorf("P2: of %q: literal %d of Clause(%d) has %d terms and room for %d", s, k, i, len(l.Args), cap(l.Args))
				}
			}
		}
	}
}

func TestP2NoSpareRoomAtAnyLength(t *testing.T) {
	s := ""
	for n := 0; n <= 26; n++ {
		p := compile(t, s)
		if l := p.Preds(); len(l) != n || cap(l) != n {
			t.Errorf("P2: Preds has %d names and room for %d, want %d", len(l), cap(l), n)
		}
		s += string([]byte{'a' + byte(n)}) + ".\n"
	}
	body := "q(A)"
	for n := 1; n <= api.MaxBody; n++ {
		p := compile(t, "p :- "+body+".")
		c, _ := p.Clause(0)
		v, _ := p.Vars(0)
		most := min(n, api.MaxVars)
		if len(c) != n+1 || cap(c) != n+1 || len(v) != most || cap(v) != most {
			t.Errorf("P2: Clause(0): %d of %d, want %d; Vars(0): %d of %d, want %d", len(c), cap(c), n+1, len(v), cap(v), most)
		}
		body += ", q(" + string([]byte{'A' + byte(n%api.MaxVars)}) + ")"
	}
}

func TestP2ListsOfOneAnswerShareNothing(t *testing.T) {
	p := compile(t, "p(X, a, X) :- p(X, a, X), p(X, a, X), !p1(X, a, X).")
	want, _ := p.Clause(0)
	for i := range want {
		c, _ := p.Clause(0)
		spoilStrings(c[i].Args)
		for k := range c {
			if k != i && !sameStrings(c[k].Args, want[k].Args) {
				t.Errorf("P2: to write into literal %d of Clause(0) makes literal %d %q", i, k, c[k].Args)
			}
		}
	}
}

func TestP2EarlierAnswersStay(t *testing.T) {
	p := compile(t, "p(Y, k) :- q(X), r(X, Y). s.")
	l := p.Preds()
	c, _ := p.Clause(0)
	v, _ := p.Vars(0)
	told(p)
	spoil(p)
	compile(t, "z(a).")
	if !sameStrings(l, []string{"p", "q", "r", "s"}) || !sameStrings(v, []string{"X", "Y"}) {
		t.Errorf("P2: lists that came out earlier are now %q, %q", l, v)
	}
	want := []api.Lit{{Pred: "p", Args: []string{"Y", "k"}}, {Pred: "q", Args: []string{"X"}}, {Pred: "r", Args: []string{"X", "Y"}}}
	if !sameLits(c, want) {
		t.Errorf("P2: a clause that came out earlier is now %v", c)
	}
}

func TestP2ProgramsDoNotMeet(t *testing.T) {
	var programs []*derive.Program
	var first []string
	for _, s := range samples() {
		p := compile(t, s)
		programs = append(programs, p)
		first = append(first, told(p))
	}
	wantError(t, "p(a;b).", api.ErrLex)
	wantError(t, "p(a). q(X).", api.ErrSafe)
	for i, p := range programs {
		if again := told(p); again != first[i] {
			t.Errorf("P2: behind other programs:\n%s\nwant:\n%s", again, first[i])
		}
		q := compile(t, samples()[i])
		if again := told(q); again != first[i] {
			t.Errorf("P2: the same text once more:\n%s\nwant:\n%s", again, first[i])
		}
	}
}

func TestP2ResultsDoNotHangOnWhatTheCallerWrites(t *testing.T) {
	for _, s := range samples() {
		p, r := compile(t, s), run(t, s)
		before := toldRun(r, p.Preds())
		for n := 0; n < 3; n++ {
			spoilRun(r, p.Preds())
			if after := toldRun(r, p.Preds()); after != before {
				t.Fatalf("P2: of %q:\n%s\nbehind what the caller wrote:\n%s", s, before, after)
			}
		}
	}
}

func TestP2RowsHaveNoSpareRoom(t *testing.T) {
	for _, s := range samples() {
		p, r := compile(t, s), run(t, s)
		for _, name := range p.Preds() {
			wantNoSpareRoom(t, s, name, r)
		}
	}
	// Each number of rows up to some sixty.
	s := "p(0)."
	for n := 1; len(s) <= api.MaxText; n++ {
		r := run(t, s)
		wantNoSpareRoom(t, s, "p", r)
		if rows, _ := r.Rows("p"); len(rows) != n {
			t.Errorf("P9: of %q Rows(p) has %d rows, want %d", s, len(rows), n)
		}
		s += fmt.Sprintf("p(%d).", n)
	}
	rules := "p(X,Y):-n(X),n(Y).q(X,Y,Z):-p(X,Y),n(Z).n(0)."
	for n := 1; n < 9; n++ {
		wantNoSpareRoom(t, rules, "p", run(t, rules))
		wantNoSpareRoom(t, rules, "q", run(t, rules))
		rules += fmt.Sprintf("n(%d).", n)
	}
}

func wantNoSpareRoom(t *testing.T, s, pred string, r *derive.Result) {
	t.Helper()
	rows, _ := r.Rows(pred)
	if cap(rows) != len(rows) {
		t.Errorf("P2: of %q Rows(%q) has %d rows and room for %d", s, pred, len(rows), cap(rows))
	}
	for _, row := range rows {
		if cap(row) != len(row) {
			t.Errorf("P2: of %q a row of Rows(%q) has %d terms and room for %d", s, pred, len(row), cap(row))
		}
	}
}

func TestP2RowsOfOneAnswerShareNothing(t *testing.T) {
	r := run(t, "p(a,a,a). p(a,a,b). p(a,b,a). p(X,Y,Z) :- p(Z,Y,X).")
	want, _ := r.Rows("p")
	for i := range want {
		rows, _ := r.Rows("p")
		spoilStrings(rows[i])
		for k := range rows {
			if k != i && !sameStrings(rows[k], want[k]) {
				t.Errorf("P2: to write into row %d makes row %d %q", i, k, rows[k])
			}
		}
	}
}

func TestP2RowsThatAreHandedInAreOnlyRead(t *testing.T) {
	r := run(t, "p(a,b). p(b,c). p(X,Z) :- p(X,Y), p(Y,Z). q(a).")
	full := []string{"a", "c", "behind", "it"}
	for _, name := range []string{"p", "q", "nosuch"} {
		for n := range full {
			r.When(name, full[:n])
			if !sameStrings(full, []string{"a", "c", "behind", "it"}) {
				t.Fatalf("P2: When(%q, ..) has written into the row: %q", name, full)
			}
		}
	}
	row := []string{"a", "c"}
	first, _ := r.When("p", row)
	row[0], row[1] = "mine", "mine"
	if n, e := r.When("p", []string{"a", "c"}); n != first || e != api.OK {
		t.Errorf("P2: When(p, a, c) = %d, %d behind a change of the row that was handed in, want %d", n, e, first)
	}
	if n, e := r.When("p", row); n != 0 || e != api.ErrRow {
		t.Errorf("P2: When(p, mine, mine) = %d, %d, want 0, ErrRow", n, e)
	}
}

// The orders, the lists in them, and the spare room behind each stay as they are, whatever Run answers.
func TestP2OrdersAreOnlyRead(t *testing.T) {
	s := "e(a,b). e(b,c). r(X,Z) :- e(X,Y), e(Y,Z). t(X,Y) :- r(X,Y), !e(X,Y)."
	p := compile(t, s)
	full := []int{2, 0, 1, 7, -8, 9}
	for length := 0; length <= len(full); length++ {
		list := append([]int{}, full...)
		orders := [][]int{nil, {}, list[:length], {1, 0}, {5, 5}, nil, {6}}
		for lists := 0; lists <= len(orders); lists++ {
			before := copyOrders(orders)
			for _, limit := range []int{-1, 0, 3, 100} {
				r, e := p.Run(orders[:lists], limit, 100)
				if (r != nil) != (lists == 4 && length == 3 && limit == 100) {
					t.Errorf("P11: Run(%s, %d, 100) = %d", ordersText(orders[:lists]), limit, e)
				}
				if ordersText(orders) != ordersText(before) || fmt.Sprint(list) != fmt.Sprint(full) {
					t.Fatalf("P2: Run has written into the orders: %s, %v", ordersText(orders), list)
				}
			}
		}
	}
}

// To write into the orders behind a run changes neither its result nor what comes later.
func TestP2OrdersAreNotKept(t *testing.T) {
	r := rand.New(rand.NewSource(4))
	for _, s := range samples() {
		p := compile(t, s)
		tells := told(p)
		for n := 0; n < 10; n++ {
			orders := anyOrders(r, p)
			same := copyOrders(orders)
			first, e := p.Run(orders, 4096, 4096)
			if e != api.OK {
				t.Fatalf("P11: Run(%v) of %q = %d", orders, s, e)
			}
			want := toldRun(first, p.Preds())
			for i := range orders {
				for k := range orders[i] {
					orders[i][k] = -1
				}
				orders[i] = []int{7, 7}
			}
			second, e := p.Run(same, 4096, 4096)
			if e != api.OK {
				t.Fatalf("P11: Run(%v) of %q once more = %d", same, s, e)
			}
			if toldRun(first, p.Preds()) != want || toldRun(second, p.Preds()) != want {
				t.Errorf("P2: of %q with %v: behind what the caller wrote into the orders other things follow", s, same)
			}
		}
		if told(p) != tells {
			t.Errorf("P2: of %q: behind runs with orders the program tells other things", s)
		}
	}
}

// One list may stand for several clauses.
func TestP2OrdersThatShareMemory(t *testing.T) {
	s := "e(a,b). e(b,c). r(X,Y) :- e(X,Y). r(X,Y) :- e(Y,X). t(X,Y,Z) :- r(X,Y), e(Y,Z)."
	p := compile(t, s)
	list := []int{1, 0, 2}
	shared, e := p.Run([][]int{list[:0], list[1:1], list[:2], list[:2], list}, 100, 100)
	if e != api.OK {
		t.Fatalf("P11: Run = %d", e)
	}
	own, e := p.Run([][]int{{}, {}, {1, 0}, {1, 0}, {1, 0, 2}}, 100, 100)
	if e != api.OK {
		t.Fatalf("P11: Run = %d", e)
	}
	if toldRun(shared, p.Preds()) != toldRun(own, p.Preds()) {
		t.Errorf("P2: with orders that share memory other things follow")
	}
}

func TestP2EarlierRowsStay(t *testing.T) {
	s := "e(a,b). e(b,c). p(X,Y) :- e(X,Y). p(X,Z) :- p(X,Y), e(Y,Z)."
	p := compile(t, s)
	r, _ := p.Run(nil, 100, 100)
	rows, _ := r.Rows("p")
	spoilRun(r, p.Preds())
	p.Run(nil, 1, 1)
	p.Run(nil, 100, 100)
	told(p)
	if rowsText(rows) != "(a,b) (a,c) (b,c)" {
		t.Errorf("P2: rows that came out earlier are now %s", rowsText(rows))
	}
}

// Runs of one program, with one another and with what the program tells, do not meet; a run that breaks off leaves nothing.
func TestP2RunsDoNotMeet(t *testing.T) {
	for _, s := range samples() {
		p := compile(t, s)
		tells := told(p)
		first, e := p.Run(nil, 4096, 4096)
		if e != api.OK {
			t.Fatalf("P8: Run of %q = %d", s, e)
		}
		want := toldRun(first, p.Preds())
		for limit := 0; limit < 12; limit++ {
			p.Run(nil, limit, 4096)
			p.Run(nil, 4096, limit)
			p.Run(nil, -limit, limit)
		}
		spoil(p)
		second, e := p.Run(nil, 4095, 4095)
		if e != api.OK {
			t.Fatalf("P8: Run of %q = %d", s, e)
		}
		for _, r := range []*derive.Result{first, second} {
			if got := toldRun(r, p.Preds()); got != want {
				t.Errorf("P2: of %q:\n%s\nwant:\n%s", s, got, want)
			}
		}
		if again := told(p); again != tells {
			t.Errorf("P2: of %q behind its runs:\n%s\nwant:\n%s", s, again, tells)
		}
	}
}

// What the program tells is the caller's: to write into it changes no run, and no result.
func TestP2RunsDoNotHangOnWhatTheCallerWrites(t *testing.T) {
	for _, s := range samples() {
		p := compile(t, s)
		preds := p.Preds()
		before, _ := p.Run(nil, 4096, 4096)
		want := toldRun(before, preds)
		spoil(p)
		after, e := p.Run(nil, 4096, 4096)
		if e != api.OK {
			t.Fatalf("P8: Run of %q = %d", s, e)
		}
		if toldRun(before, preds) != want || toldRun(after, preds) != want {
			t.Errorf("P2: of %q: behind what the caller wrote other rows follow", s)
		}
	}
}
