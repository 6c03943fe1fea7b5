package promises

import (
	"testing"

	"derive/api"
)

func wantRows(t *testing.T, s, pred, want string) {
	t.Helper()
	rows, e := run(t, s).Rows(pred)
	if e != api.OK || rowsText(rows) != want {
		t.Errorf("P9: of %q Rows(%q) = %s, %d, want %s", s, pred, rowsText(rows), e, want)
	}
}

func TestP9RowsRiseByTheirBytes(t *testing.T) {
	wantRows(t, "p(9). p(10). p(1). p(2).", "p", "(1) (10) (2) (9)")
	wantRows(t, "p(a). p(9). p(0). p(aB). p(ab). p(aZ). p(a1). p(b). p(010). p(z9). p(10).", "p", "(0) (010) (10) (9) (a) (a1) (aB) (aZ) (ab) (b) (z9)")
	wantRows(t, "p(b). p(aa). p(a). p(ab). p(aaa).", "p", "(a) (aa) (aaa) (ab) (b)")
}

func TestP9RowsRiseTermByTerm(t *testing.T) {
	wantRows(t, "p(b,a). p(a,b). p(b,b). p(a,a).", "p", "(a,a) (a,b) (b,a) (b,b)")
	// As whole texts "1,9" would come ahead of "1," with more behind it, and "10,0" ahead of "1,a".
	wantRows(t, "p(10,0). p(1,a). p(1,9). p(1,10). p(10,00).", "p", "(1,10) (1,9) (1,a) (10,0) (10,00)")
	wantRows(t, "p(b,a,a). p(a,b,a). p(a,a,b). p(a,a,10). p(a,10,z). p(10,z,z). p(9,a,a).", "p", "(10,z,z) (9,a,a) (a,10,z) (a,a,10) (a,a,b) (a,b,a) (b,a,a)")
	wantRows(t, "q(10,a). q(9,b). q(1,b). q(1,a). p(Y,X) :- q(X,Y).", "p", "(a,1) (a,10) (b,1) (b,9)")
}

func TestP9RowsOfAllRoundsAreSortedTogether(t *testing.T) {
	wantRows(t, "p(b). s(b,d). s(d,a). s(a,c). s(c,10). p(Y) :- p(X), s(X,Y).", "p", "(10) (a) (b) (c) (d)")
}

func TestP9EachRowOnce(t *testing.T) {
	wantRows(t, "p(a). p(a). p(X) :- q(X). p(X) :- r(X,Y). q(a). q(b). r(a,1). r(a,2). r(b,1). r(c,1).", "p", "(a) (b) (c)")
	wantRows(t, "p. p. p :- p. p :- q(X). q(a). q(b).", "p", "()")
}

func TestP9PredicatesWithoutRows(t *testing.T) {
	s := "p(X) :- q(X), !r(X,X), !o. m :- n."
	for _, name := range []string{"p", "q", "r", "o", "m", "n"} {
		wantRows(t, s, name, "")
		if rows, e := run(t, s).Rows(name); len(rows) != 0 || e != api.OK {
			t.Errorf("P9: Rows(%q) = %v, %d, want no rows", name, rows, e)
		}
	}
}

func TestP9RowsHaveAsManyTermsAsTheirPredicate(t *testing.T) {
	r := run(t, "p. q(a). r(a,b). s(a,b,c).")
	for n, name := range []string{"p", "q", "r", "s"} {
		rows, e := r.Rows(name)
		if e != api.OK || len(rows) != 1 || len(rows[0]) != n {
			t.Errorf("P9: Rows(%q) = %q, %d, want one row of %d terms", name, rows, e, n)
		}
	}
}

func TestP9NoSuchPredicate(t *testing.T) {
	for _, s := range samples() {
		r := run(t, s)
		for _, name := range []string{"", " ", "X", "nosuch", "pp", "P", "p ", "!q", "p(a)", "\x00", "\xff", "p.", "0", "z0", "toolonganame"} {
			if rows, e := r.Rows(name); rows != nil || e != api.ErrPred {
				t.Errorf("P9: of %q Rows(%q) = %v, %d, want nil, ErrPred", s, name, rows, e)
			}
		}
	}
	// A term of the text is no predicate of it.
	if rows, e := run(t, "p(a).").Rows("a"); rows != nil || e != api.ErrPred {
		t.Errorf("P9: Rows(a) = %v, %d, want nil, ErrPred", rows, e)
	}
}
