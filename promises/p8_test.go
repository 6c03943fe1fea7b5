package promises

import (
	"fmt"
	"math"
	"strings"
	"testing"

	"derive/api"
)

// came is a row of a predicate, and the round in which it came.
type came struct {
	row  string
	when int
}

// wantCame asks that these are all rows of a predicate, and that each came in its round.
func wantCame(t *testing.T, s, pred string, want ...came) {
	t.Helper()
	r := run(t, s)
	rows, e := r.Rows(pred)
	var list []string
	for _, c := range want {
		list = append(list, c.row)
	}
	if e != api.OK || rowsText(rows) != strings.Join(list, " ") {
		t.Fatalf("P8: of %q Rows(%q) = %s, %d, want %s", s, pred, rowsText(rows), e, strings.Join(list, " "))
	}
	for i, row := range rows {
		if n, e := r.When(pred, row); n != want[i].when || e != api.OK {
			t.Errorf("P8: of %q When(%q, %q) = %d, %d, want %d", s, pred, row, n, e, want[i].when)
		}
	}
}

func wantCounts(t *testing.T, s string, rows, rounds int) {
	t.Helper()
	a, b, moves := run(t, s).Counts()
	if a != rows || b != rounds || moves < 0 {
		t.Errorf("P10: of %q Counts = %d, %d, %d, want %d, %d", s, a, b, moves, rows, rounds)
	}
	wantRun(t, s, rows, rounds, api.OK)
	wantRun(t, s, api.MaxLimit, api.MaxLimit, api.OK)
	if rows > 0 {
		wantRun(t, s, rows-1, rounds, api.ErrLimit)
		wantRun(t, s, rows-1, api.MaxLimit, api.ErrLimit)
		wantRun(t, s, 0, api.MaxLimit, api.ErrLimit)
	}
	if rounds > 0 {
		wantRun(t, s, rows, rounds-1, api.ErrLimit)
		wantRun(t, s, api.MaxLimit, rounds-1, api.ErrLimit)
		wantRun(t, s, api.MaxLimit, 0, api.ErrLimit)
	}
}

func TestP8Examples(t *testing.T) {
	for _, c := range []struct{ s, want string }{
		{"p(a). p(b). p(a).", "(a) (b)"},
		{"p :- !q.", "()"},
		{"q(b,a). q(a,b). p(X,X) :- q(X,Y).", "(a,a) (b,b)"},
		{"q(a,a). q(a,b). p(X) :- q(X,X).", "(a)"},
		{"q(10). q(9). q(a). p(X) :- q(X), !r(X). r(9).", "(10) (a)"},
		{"e(a,b). e(b,a). e(b,c). p(X) :- e(X,Y), e(Y,X).", "(a) (b)"},
		{"a(1). b(2). c(3). p(X,Y,Z) :- a(X), b(Y), c(Z).", "(1,2,3)"},
		{"q(a,b). p(k,Y) :- q(a,Y), q(X,b), !q(Y,X).", "(k,b)"},
		{"p(X) :- r(X), !s(X). s(X) :- t(X), !u(X). r(a). r(b). r(c). t(a). t(b). u(b).", "(b) (c)"},
		{"n(z). s(z,a). s(a,b). s(b,c). e(z). e(Y) :- o(X), s(X,Y). o(Y) :- e(X), s(X,Y). p(X) :- e(X).", "(b) (z)"},
	} {
		rows, e := run(t, c.s).Rows("p")
		if e != api.OK || rowsText(rows) != c.want {
			t.Errorf("P8: of %q Rows(p) = %s, %d, want %s", c.s, rowsText(rows), e, c.want)
		}
	}
}

func TestP8ExampleOfStrata(t *testing.T) {
	s := "p(X) :- r(X), !s(X). s(X) :- t(X), !u(X). r(a). r(b). r(c). t(a). t(b). u(b)."
	wantCounts(t, s, 9, 4)
	wantCame(t, s, "s", came{"(a)", 1})
	wantCame(t, s, "p", came{"(b)", 3}, came{"(c)", 3})
	wantCame(t, s, "r", came{"(a)", 0}, came{"(b)", 0}, came{"(c)", 0})
}

func TestP8ExampleOfAWay(t *testing.T) {
	s := "e(a,b). e(b,c). e(c,d). p(X,Y) :- e(X,Y). p(X,Z) :- p(X,Y), e(Y,Z)."
	wantCounts(t, s, 9, 4)
	wantCame(t, s, "p", came{"(a,b)", 1}, came{"(a,c)", 2}, came{"(a,d)", 3}, came{"(b,c)", 1}, came{"(b,d)", 2}, came{"(c,d)", 1})
	wantRun(t, s, 8, 4, api.ErrLimit)
	wantRun(t, s, 9, 3, api.ErrLimit)
}

func TestP8Limits(t *testing.T) {
	over := api.MaxLimit + 1
	for _, s := range []string{"", "p.", "p(a). p(b).", "p :- !q.", "p :- q."} {
		for _, bad := range []int{-1, -2, over, over + 1, 2 * over, math.MinInt, math.MaxInt, math.MinInt32, math.MaxInt32, -api.MaxLimit} {
			for _, other := range []int{-1, 0, 1, 4096, api.MaxLimit, over} {
				wantRun(t, s, bad, other, api.ErrArg)
				wantRun(t, s, other, bad, api.ErrArg)
			}
			wantRun(t, s, bad, bad, api.ErrArg)
		}
		wantRun(t, s, api.MaxLimit, api.MaxLimit, api.OK)
		wantRun(t, s, api.MaxLimit-1, api.MaxLimit, api.OK)
		wantRun(t, s, api.MaxLimit, api.MaxLimit-1, api.OK)
	}
	wantRun(t, "", 0, 0, api.OK)
	wantRun(t, "p(a). p(a).", 1, 0, api.OK)
	wantRun(t, "p(a). p(a).", 0, 0, api.ErrLimit)
	wantRun(t, "p :- q.", 0, 1, api.OK)
	wantRun(t, "p :- q.", 0, 0, api.ErrLimit)
}

func TestP8RowsAndRounds(t *testing.T) {
	for _, c := range []struct {
		s            string
		rows, rounds int
	}{
		{"", 0, 0},
		{"p.", 1, 0},
		{"p(a). p(b). q(a). q(a).", 3, 0},
		{"p :- q.", 0, 1},
		{"p :- !q.", 1, 2},
		{"p :- !q. q.", 1, 1},
		{"p :- p. p.", 1, 1},
		{"p :- p.", 0, 1},
		{"p :- q. q.", 2, 2},
		{"p :- q. q :- p. q.", 2, 2},
		{"a :- b. b :- c. c :- d. d.", 4, 4},
		{"c :- d. b :- c. a :- b. d.", 4, 4},
		{"a :- !b. b :- !c. c :- !d. d :- !e.", 2, 6},
		{"a(X) :- b(X), !c(X). b(1). b(2). c(1).", 4, 2},
	} {
		wantCounts(t, c.s, c.rows, c.rounds)
	}
}

func TestP8AFactThatStandsTwice(t *testing.T) {
	wantCounts(t, "p(a). q. p(a). q. p(a).", 2, 0)
	wantCame(t, "p(a). q. p(a). q. p(a).", "p", came{"(a)", 0})
	wantCame(t, "p(a). q. p(a). q. p(a).", "q", came{"()", 0})
	wantCounts(t, "p(10). p(010). p(1). p(01).", 4, 0)
	wantCounts(t, "p(a,b). p(b,a). p(a,b).", 2, 0)
}

func TestP8AFactWhosePredicatesStratumHasRules(t *testing.T) {
	wantCame(t, "p(b). p(X) :- q(X). q(a). q(b).", "p", came{"(a)", 1}, came{"(b)", 0})
	// p is in stratum 2, and its fact is there from the beginning, but what it makes new waits for the one round of stratum 1.
	s := "p(z). p(X) :- q(X), !r. r :- n, !o. q(y). m(X) :- p(X)."
	wantCame(t, s, "p", came{"(y)", 2}, came{"(z)", 0})
	wantCame(t, s, "m", came{"(y)", 3}, came{"(z)", 2})
	wantCounts(t, s, 5, 4)
	wantCame(t, "s(X) :- q(X), !r. s(k). q(k). r :- t.", "s", came{"(k)", 0})
}

func TestP8AStratumWithoutRules(t *testing.T) {
	// Stratum 0 has facts alone: the first round is that of stratum 1.
	wantCame(t, "p :- !q. r. s(a).", "p", came{"()", 1})
	// Stratum 0 has a rule that says nothing: it has its round.
	wantCame(t, "p :- !q. q :- r.", "p", came{"()", 2})
	wantCame(t, "p :- !q. q :- q.", "p", came{"()", 2})
	wantCounts(t, "p :- !q. r. s(a).", 3, 2)
	wantCounts(t, "p :- !q. q :- r.", 1, 3)
	wantCounts(t, "c :- !b. b :- !a. a.", 2, 3)
}

func TestP8RoundsAddAllAtOnce(t *testing.T) {
	for _, s := range []string{"a :- b. b :- c. c :- d. d.", "d. c :- d. b :- c. a :- b.", "b :- c. d. a :- b. c :- d."} {
		wantCame(t, s, "d", came{"()", 0})
		wantCame(t, s, "c", came{"()", 1})
		wantCame(t, s, "b", came{"()", 2})
		wantCame(t, s, "a", came{"()", 3})
	}
	// Two rules say the same row, one of them sooner.
	wantCame(t, "a :- c. a :- d. c :- d. d.", "a", came{"()", 1})
	wantCame(t, "a :- d. a :- c. c :- d. d.", "a", came{"()", 1})
	// Ways of two halves double each round: what a round adds it does not yet use.
	wantCame(t, "p(1,2). p(2,3). p(3,4). p(4,5). p(X,Z) :- p(X,Y), p(Y,Z).", "p",
		came{"(1,2)", 0}, came{"(1,3)", 1}, came{"(1,4)", 2}, came{"(1,5)", 2}, came{"(2,3)", 0}, came{"(2,4)", 1},
		came{"(2,5)", 2}, came{"(3,4)", 0}, came{"(3,5)", 1}, came{"(4,5)", 0})
}

func TestP8StrataWaitForEachOther(t *testing.T) {
	// n has no negated literal, but stands in stratum 1 by way of m; it begins when stratum 0 is done.
	s := "e(1,2). e(2,3). p(X,Y) :- e(X,Y). p(X,Z) :- p(X,Y), e(Y,Z). m(X) :- e(X,Y), !p(Y,X). n(X) :- m(X)."
	wantCame(t, s, "p", came{"(1,2)", 1}, came{"(1,3)", 2}, came{"(2,3)", 1})
	wantCame(t, s, "m", came{"(1)", 4}, came{"(2)", 4})
	wantCame(t, s, "n", came{"(1)", 5}, came{"(2)", 5})
	wantCounts(t, s, 9, 6)
	// Negation looks at all rows of the lower stratum, also those that came last.
	wantCame(t, "q(a). q(d). s(a,b). s(b,c). s(c,d). r(a). r(Y) :- r(X), s(X,Y). p(X) :- q(X), !r(X).", "p")
}

func TestP8PredicatesWithoutTerms(t *testing.T) {
	wantCame(t, "p.", "p", came{"()", 0})
	wantCame(t, "p :- q.", "p")
	wantCame(t, "p :- q, r. q. r.", "p", came{"()", 1})
	wantCame(t, "p :- q, r. q.", "p")
	wantCame(t, "p :- q(X). q(a). q(b).", "p", came{"()", 1})
	wantCame(t, "p :- q(X), !r(X). q(a). r(a).", "p")
	wantCame(t, "p(X) :- q(X), r. q(a). r.", "p", came{"(a)", 1})
	wantCame(t, "p(X) :- q(X), r. q(a).", "p")
	wantCame(t, "p(a) :- q. q.", "p", came{"(a)", 1})
	wantCame(t, "p(a) :- !q.", "p", came{"(a)", 1})
	wantCame(t, "p(X) :- q(X), !r. q(a).", "p", came{"(a)", 1})
	wantCame(t, "p(X) :- q(X), !r. q(a). r.", "p")
}

func TestP8Constants(t *testing.T) {
	facts := "q(a,b). q(b,c). q(c,c). "
	wantCame(t, facts+"p(X) :- q(a,X).", "p", came{"(b)", 1})
	wantCame(t, facts+"p(X) :- q(X,c).", "p", came{"(b)", 1}, came{"(c)", 1})
	wantCame(t, facts+"p(X) :- q(X,k).", "p")
	wantCame(t, facts+"p(k) :- q(a,b).", "p", came{"(k)", 1})
	wantCame(t, facts+"p(k) :- q(b,a).", "p")
	wantCame(t, facts+"p(X) :- q(X,Y), !q(Y,c).", "p")
	wantCame(t, facts+"p(X) :- q(X,Y), !q(c,X).", "p", came{"(a)", 1}, came{"(b)", 1})
	wantCame(t, facts+"p(X,k,X) :- q(X,Y), !q(k,X), !m(X,Y,k).", "p", came{"(a,k,a)", 1}, came{"(b,k,b)", 1}, came{"(c,k,c)", 1})
	wantCame(t, "t(a,b,c). t(a,c,c). t(b,b,c). p(Y) :- t(a,Y,c).", "p", came{"(b)", 1}, came{"(c)", 1})
	wantCame(t, "t(1,10). t(01,010). p(X) :- t(01,X).", "p", came{"(010)", 1})
}

func TestP8VariablesThatStandTwice(t *testing.T) {
	wantCame(t, "q(a,b). q(b,b). q(c,c). p(X) :- q(X,X).", "p", came{"(b)", 1}, came{"(c)", 1})
	wantCame(t, "q(a,b). q(b,b). q(c,a). p(X,Y) :- q(X,Y), !q(X,X).", "p", came{"(a,b)", 1}, came{"(c,a)", 1})
	facts := "t(a,a,a). t(a,a,b). t(a,b,a). t(b,a,a). t(a,b,b). "
	wantCame(t, facts+"p(X) :- t(X,X,X).", "p", came{"(a)", 1})
	wantCame(t, facts+"p(X,Y) :- t(X,X,Y).", "p", came{"(a,a)", 1}, came{"(a,b)", 1})
	wantCame(t, facts+"p(X,Y) :- t(X,Y,X).", "p", came{"(a,a)", 1}, came{"(a,b)", 1})
	wantCame(t, facts+"p(X,Y) :- t(Y,X,X).", "p", came{"(a,a)", 1}, came{"(a,b)", 1}, came{"(b,a)", 1})
	wantCame(t, facts+"p(X) :- t(X,b,X).", "p", came{"(a)", 1})
	wantCame(t, "q(a). q(b). p(X,X,X) :- q(X).", "p", came{"(a,a,a)", 1}, came{"(b,b,b)", 1})
	wantCame(t, "q(a). q(b). r(b). p(X) :- q(X), q(X), r(X), q(X).", "p", came{"(b)", 1})
	// What comes in a later round has to have twice the same too.
	wantCame(t, "q(a,b). q(b,b). w(X,Y) :- q(X,Y). w(X,Y) :- w(Y,X). v(X) :- w(X,X).", "v", came{"(b)", 2})
}

func TestP8JoinsOfManyLiterals(t *testing.T) {
	facts := "e(a,b). e(b,c). e(c,d). e(d,f). e(f,a). e(a,c). "
	wantCame(t, facts+"p(X,Y,Z) :- e(X,Y), e(Y,Z), e(X,Z).", "p", came{"(a,b,c)", 1})
	wantCame(t, facts+"p(X) :- e(X,Y), e(Y,Z), e(Z,V), e(V,W), e(W,X).", "p", came{"(a)", 1}, came{"(b)", 1}, came{"(c)", 1}, came{"(d)", 1}, came{"(f)", 1})
	wantCame(t, facts+"p(W) :- e(b,X), e(X,Y), e(Y,Z), e(Z,V), e(V,W), !e(X,W).", "p", came{"(b)", 1}, came{"(c)", 1})
	compareRun(t, facts+"p(X,V) :- e(X,Y), e(Z,V), !e(Y,Z), !e(X,Z), !e(X,V), !e(V,X).")
	compareRun(t, facts+"p(X,V) :- !e(Y,Z), e(Z,V), !e(V,X), e(X,Y), !e(Y,V), e(V,W).")
	compareRun(t, facts+"p(Z) :- e(X,Y), e(Y,Z). e(X,X) :- p(X), e(X,Y), p(Y), e(Y,Z), p(Z), e(Z,V).")
}

// Five rounds and more hang on one another by two rules in turn, and by literals in each place.
func TestP8EveryLiteralMayBeTheFreshOne(t *testing.T) {
	for _, body := range []string{"p(X,Y),e(Y,Z)", "e(Y,Z),p(X,Y)"} {
		s := ""
		for i := 0; i < 8; i++ {
			s += fmt.Sprintf("e(%d,%d).", i, i+1)
		}
		r := run(t, s+"p(0,0).p(X,Z):-"+body+".")
		for i := 0; i <= 8; i++ {
			if n, e := r.When("p", []string{"0", fmt.Sprint(i)}); n != i || e != api.OK {
				t.Errorf("P8: When(p, 0, %d) = %d, %d, want %d", i, n, e, i)
			}
		}
		if rows, rounds, _ := r.Counts(); rows != 17 || rounds != 9 {
			t.Errorf("P8: Counts = %d, %d, want 17, 9", rows, rounds)
		}
	}
	s := "a(0). b(0). c(0). s(0,1). s(1,2). s(2,3). a(Y) :- a(X), s(X,Y). b(Y) :- a(X), b(X), s(X,Y). c(Y) :- b(X), c(X), a(Y), s(X,Y)."
	wantCame(t, s, "a", came{"(0)", 0}, came{"(1)", 1}, came{"(2)", 2}, came{"(3)", 3})
	wantCame(t, s, "b", came{"(0)", 0}, came{"(1)", 1}, came{"(2)", 2}, came{"(3)", 3})
	wantCame(t, s, "c", came{"(0)", 0}, came{"(1)", 2}, came{"(2)", 3}, came{"(3)", 4})
}

// manyFacts gives facts with as many terms as there is room for, each another.
func manyFacts(room int) (string, int) {
	digits := "0123456789abcdefghijklmnopqrstuvwxyz"
	name := func(i int) string {
		if i < len(digits) {
			return digits[i : i+1]
		}
		return "x" + digits[i%len(digits):i%len(digits)+1] + strings.Repeat("y", i/len(digits)-1)
	}
	s := ""
	n := 0
	for {
		f := "d(" + name(n) + "," + name(n+1) + "," + name(n+2) + ")."
		if len(s)+len(f) > room {
			return s, n
		}
		s += f
		n += 3
	}
}

// All rows of three terms, of as many terms as a text has room for: more than MaxLimit, and with fewer terms just below it.
func TestP8TheGreatestLimit(t *testing.T) {
	rules := "c(X):-d(X,Y,Z).c(Y):-d(X,Y,Z).c(Z):-d(X,Y,Z).p(X,Y,Z):-c(X),c(Y),c(Z)."
	s, n := manyFacts(api.MaxText - len(rules))
	if n*n*n <= api.MaxLimit {
		t.Fatalf("the text has too few terms: %d", n)
	}
	wantRun(t, s+rules, api.MaxLimit, api.MaxLimit, api.ErrLimit)
	s, n = manyFacts(300)
	rows := n/3 + n + n*n*n
	wantRun(t, s+rules, rows, 3, api.OK)
	wantRun(t, s+rules, rows-1, 3, api.ErrLimit)
	wantRun(t, s+rules, rows, 2, api.ErrLimit)
}

// A row counts on in base n: one more row each round.
func TestP8ManyRounds(t *testing.T) {
	s := ""
	digits := "0123456789abcdefghijk"
	for i := 0; i+1 < len(digits); i++ {
		s += "s(" + digits[i:i+1] + "," + digits[i+1:i+2] + ")."
	}
	n := len(digits)
	rules := "p(0,0,0).p(X,Y,W):-p(X,Y,Z),s(Z,W).p(X,W,0):-p(X,Y,k),s(Y,W).p(W,0,0):-p(X,k,k),s(X,W)."
	p := compile(t, s+rules)
	r, e := p.Run(nil, api.MaxLimit, n*n*n)
	if e != api.OK || r == nil {
		t.Fatalf("P8: Run = %d", e)
	}
	rows, rounds, _ := r.Counts()
	if rows != n-1+n*n*n || rounds != n*n*n {
		t.Errorf("P10: Counts = %d, %d, want %d, %d", rows, rounds, n-1+n*n*n, n*n*n)
	}
	list, _ := r.Rows("p")
	for i, row := range list {
		if when, e := r.When("p", row); when != i || e != api.OK {
			t.Fatalf("P10: When(p, %q) = %d, %d, want %d", row, when, e, i)
		}
	}
	wantRun(t, s+rules, api.MaxLimit, n*n*n-1, api.ErrLimit)
	wantRun(t, s+rules, rows-1, api.MaxLimit, api.ErrLimit)
}

// What does not hang on a variable is not looked for anew at each of its values: else these would be some 90 to the fifth.
func TestP8VariablesOnWhichNothingHangs(t *testing.T) {
	facts, n := manyFacts(340)
	for _, c := range []struct {
		rule string
		rows int
	}{
		{"p(X):-c(X),c(Y),c(Z),c(V),c(W).", n},
		{"p(W):-c(X),c(Y),c(Z),c(V),c(W).", n},
		{"p(Z):-c(X),c(Y),c(Z),c(V),c(W).", n},
		{"p(W,X):-c(X),c(Y),c(Z),c(V),c(W).", n * n},
		{"p:-c(X),c(Y),c(Z),c(V),c(W).", 1},
		{"p(W):-c(X),c(Y),c(Z),c(V),c(W),!c(X).", 0},
		{"p(W):-c(X),c(Y),c(Z),c(V),c(W),!c(W).", 0},
	} {
		s := facts + "c(X):-d(X,Y,Z).c(Y):-d(X,Y,Z).c(Z):-d(X,Y,Z)." + c.rule
		r, e := compile(t, s).Run(nil, api.MaxLimit, api.MaxLimit)
		if e != api.OK || r == nil {
			t.Fatalf("P8: Run of %q = %d", s, e)
		}
		if rows, _ := r.Rows("p"); len(rows) != c.rows {
			t.Errorf("P9: of %q there are %d rows, want %d", c.rule, len(rows), c.rows)
		}
	}
}
