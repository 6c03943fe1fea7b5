package promises

import (
	"fmt"
	"strings"
	"testing"

	"derive/api"
	"derive/derive"
)

func wantWhen(t *testing.T, r *derive.Result, pred string, row []string, when int, e api.Errno) {
	t.Helper()
	if n, f := r.When(pred, row); n != when || f != e {
		t.Errorf("P10: When(%q, %q) = %d, %d, want %d, %d", pred, row, n, f, when, e)
	}
}

func TestP10When(t *testing.T) {
	r := run(t, "p(X) :- r(X), !s(X). s(X) :- t(X), !u(X). r(a). r(b). r(c). t(a). t(b). u(b). p(z). v.")
	for _, c := range []struct {
		pred, row string
		when      int
	}{{"s", "a", 1}, {"p", "b", 3}, {"p", "c", 3}, {"p", "z", 0}, {"t", "a", 0}, {"t", "b", 0}, {"u", "b", 0}, {"v", "", 0}} {
		wantWhen(t, r, c.pred, strings.Fields(c.row), c.when, api.OK)
	}
	wantWhen(t, run(t, "p :- !q."), "p", nil, 1, api.OK)
	wantWhen(t, run(t, "p :- !q."), "p", []string{}, 1, api.OK)
}

func TestP10WhenIsTheFirstRound(t *testing.T) {
	// Every round says p(a) once more.
	r := run(t, "q(1). s(1,2). s(2,3). s(3,4). q(Y) :- q(X), s(X,Y). p(a) :- q(X).")
	wantWhen(t, r, "p", []string{"a"}, 1, api.OK)
	wantWhen(t, r, "q", []string{"1"}, 0, api.OK)
	wantWhen(t, r, "q", []string{"4"}, 3, api.OK)
}

func TestP10NoSuchRow(t *testing.T) {
	r := run(t, "p(a,b). p(b,c). q(a). o. t(a,b,c). m(X) :- n(X).")
	for _, c := range []struct {
		pred string
		rows [][]string
	}{
		{"p", [][]string{{"b", "a"}, {"a", "a"}, {"c", "b"}, {"a", "c"}, {"a", "nosuch"}, {"nosuch", "b"}, {"", ""}, {"A", "b"}, {"a", "b "}, {"a", " b"}, {"a,b", ""}}},
		{"q", [][]string{{"b"}, {"c"}, {""}, {"X"}, {"nosuch"}, {"\x00"}, {"a\x00"}, {"aa"}, {strings.Repeat("a", 1000)}}},
		{"t", [][]string{{"c", "b", "a"}, {"a", "b", "b"}, {"a", "b", "nosuch"}, {"a", "c", "c"}, {"b", "b", "c"}}},
		{"m", [][]string{{"a"}, {"b"}, nil}},
		{"n", [][]string{{"a"}, {}, {"a", "b"}}},
	} {
		for _, row := range c.rows {
			wantWhen(t, r, c.pred, row, 0, api.ErrRow)
		}
	}
}

func TestP10RowsOfOtherLengths(t *testing.T) {
	r := run(t, "p(a,b). q(a). o. t(a,b,c). a(0).")
	full := []string{"a", "b", "c", "a", "b"}
	for n, name := range []string{"o", "q", "p", "t"} {
		for length := 0; length <= len(full); length++ {
			want := api.ErrRow
			if length == n {
				want = api.OK
			}
			wantWhen(t, r, name, full[:length], 0, want)
			wantWhen(t, r, name, append([]string{}, full[:length]...), 0, want)
		}
		wantWhen(t, r, name, make([]string, 100000), 0, api.ErrRow)
	}
	wantWhen(t, r, "o", nil, 0, api.OK)
	for _, name := range []string{"q", "p", "t"} {
		wantWhen(t, r, name, nil, 0, api.ErrRow)
		wantWhen(t, r, name, []string{}, 0, api.ErrRow)
	}
	// The least term has the least value: a row that is too short must not be taken for one with it.
	wantWhen(t, r, "a", nil, 0, api.ErrRow)
	wantWhen(t, r, "a", []string{"0", "0"}, 0, api.ErrRow)
	wantWhen(t, run(t, "p(a,a,a). q(a)."), "p", []string{"a"}, 0, api.ErrRow)
	wantWhen(t, run(t, "p(a,a,a). q(a)."), "q", []string{"a", "a"}, 0, api.ErrRow)
	wantWhen(t, run(t, "o. p(a)."), "o", []string{"a"}, 0, api.ErrRow)
	wantWhen(t, run(t, "p(a) :- o. "), "o", nil, 0, api.ErrRow)
}

func TestP10NoSuchPredicate(t *testing.T) {
	r := run(t, "p(a,b). q(a). o.")
	for _, name := range []string{"", "a", "b", "X", "pp", "P", "p ", "nosuch", "\xff"} {
		for _, row := range [][]string{nil, {}, {"a"}, {"a", "b"}, {"nosuch"}, make([]string, 10)} {
			wantWhen(t, r, name, row, 0, api.ErrPred)
		}
	}
	wantWhen(t, run(t, ""), "p", nil, 0, api.ErrPred)
	wantWhen(t, run(t, ""), "", nil, 0, api.ErrPred)
}

func TestP10RowsAreOnesOfTheirPredicateAlone(t *testing.T) {
	r := run(t, "p(a). q(b). r(X) :- p(X). s(X) :- q(X), !p(X).")
	wantWhen(t, r, "p", []string{"a"}, 0, api.OK)
	wantWhen(t, r, "q", []string{"a"}, 0, api.ErrRow)
	wantWhen(t, r, "r", []string{"a"}, 1, api.OK)
	wantWhen(t, r, "r", []string{"b"}, 0, api.ErrRow)
	wantWhen(t, r, "s", []string{"b"}, 3, api.OK)
}

// When and Rows tell of the same rows: of every row that could be, those alone are there that Rows has.
func TestP10EveryRowThatCouldBe(t *testing.T) {
	terms := []string{"a", "b", "c", "10", "9", "k", "X", "", "nosuch"}
	for _, s := range samples() {
		p, r := compile(t, s), run(t, s)
		for _, name := range p.Preds() {
			rows, _ := r.Rows(name)
			there := map[string]bool{}
			for _, row := range rows {
				there[fmt.Sprintf("%q", row)] = true
			}
			if len(there) != len(rows) {
				t.Fatalf("P9: of %q Rows(%q) has a row twice: %s", s, name, rowsText(rows))
			}
			for _, row := range allRows(terms) {
				n, e := r.When(name, row)
				if (e == api.OK) != there[fmt.Sprintf("%q", row)] || (e != api.OK && (e != api.ErrRow || n != 0)) {
					t.Fatalf("P10: of %q When(%q, %q) = %d, %d; Rows has %s", s, name, row, n, e, rowsText(rows))
				}
			}
		}
	}
}

// allRows gives all rows of these terms, of each length from one to three.
func allRows(terms []string) [][]string {
	var list [][]string
	last := [][]string{{}}
	for length := 0; length < api.MaxArity; length++ {
		var longer [][]string
		for _, row := range last {
			for _, term := range terms {
				longer = append(longer, append(row[:len(row):len(row)], term))
			}
		}
		list = append(list, longer...)
		last = longer
	}
	return list
}

func TestP10Counts(t *testing.T) {
	for _, c := range []struct {
		s            string
		rows, rounds int
	}{
		{"", 0, 0},
		{"p(a). p(a).", 1, 0},
		{"p(X) :- r(X), !s(X). s(X) :- t(X), !u(X). r(a). r(b). r(c). t(a). t(b). u(b).", 9, 4},
		{"e(a,b). e(b,c). e(c,d). p(X,Y) :- e(X,Y). p(X,Z) :- p(X,Y), e(Y,Z).", 9, 4},
		{"a :- !b. b :- !c.", 1, 3},
		{"p. q(a). q(b). r(a,b). s(a,b,c). s(a,b,d). s(b,b,d).", 7, 0},
	} {
		wantCounts(t, c.s, c.rows, c.rounds)
	}
}

// The first number of Counts is that of the rows of all predicates together.
func TestP10CountsAndRowsAgree(t *testing.T) {
	for _, s := range samples() {
		p, r := compile(t, s), run(t, s)
		sum := 0
		for _, name := range p.Preds() {
			rows, _ := r.Rows(name)
			sum += len(rows)
		}
		if rows, rounds, moves := r.Counts(); rows != sum || rounds < 0 || moves < 0 {
			t.Errorf("P10: of %q Counts = %d, %d, %d, and there are %d rows", s, rows, rounds, moves, sum)
		}
	}
}
