// Package promises tests the program by its calls alone, promise by promise of DOC.md.
package promises

import (
	"fmt"
	"strings"
	"testing"

	"derive/api"
	"derive/derive"
)

// compile gives the program of a text that is one.
func compile(t *testing.T, s string) *derive.Program {
	t.Helper()
	p, e := derive.Compile(s)
	if e != api.OK || p == nil {
		t.Fatalf("Compile(%q) = %v, %d, want a program", s, p != nil, e)
	}
	return p
}

// wantError asks for one error of Compile, and, as P1 says, for a program with OK alone.
func wantError(t *testing.T, s string, want api.Errno) {
	t.Helper()
	p, e := derive.Compile(s)
	if e != want {
		t.Errorf("Compile(%q) = %d, want %d", s, e, want)
	}
	if (p != nil) != (e == api.OK) {
		t.Errorf("P1: Compile(%q) = %d, with a program: %v", s, e, p != nil)
	}
}

func wantErrors(t *testing.T, want api.Errno, texts ...string) {
	t.Helper()
	for _, s := range texts {
		wantError(t, s, want)
	}
}

func sameStrings(a, b []string) bool {
	if len(a) != len(b) {
		return false
	}
	for i := range a {
		if a[i] != b[i] {
			return false
		}
	}
	return true
}

func sameLits(a, b []api.Lit) bool {
	if len(a) != len(b) {
		return false
	}
	for i := range a {
		if a[i].Not != b[i].Not || a[i].Pred != b[i].Pred || !sameStrings(a[i].Args, b[i].Args) {
			return false
		}
	}
	return true
}

// run gives the result of a text that is a program, with limits that are high enough for it.
func run(t *testing.T, s string) *derive.Result {
	t.Helper()
	r, e := compile(t, s).Run(nil, 4096, 4096)
	if e != api.OK || r == nil {
		t.Fatalf("P8: Run of %q = %v, %d, want a result", s, r != nil, e)
	}
	return r
}

// wantRun asks for one error of Run, and, as P1 says, for a result with OK alone.
func wantRun(t *testing.T, s string, rows, rounds int, want api.Errno) {
	t.Helper()
	r, e := compile(t, s).Run(nil, rows, rounds)
	if e != want {
		t.Errorf("P8: Run(nil, %d, %d) of %q = %d, want %d", rows, rounds, s, e, want)
	}
	if (r != nil) != (e == api.OK) {
		t.Errorf("P1: Run(nil, %d, %d) of %q = %d, with a result: %v", rows, rounds, s, e, r != nil)
	}
}

// rowText writes a row as the document does.
func rowText(row []string) string { return "(" + strings.Join(row, ",") + ")" }

func rowsText(rows [][]string) string {
	var list []string
	for _, row := range rows {
		list = append(list, rowText(row))
	}
	return strings.Join(list, " ")
}

// toldRun writes down all that a result tells of these predicates.
func toldRun(r *derive.Result, preds []string) string {
	rows, rounds, moves := r.Counts()
	return fmt.Sprintf("%d %d %d\n", rows, rounds, moves) + toldRows(r, preds)
}

func toldRows(r *derive.Result, preds []string) string {
	var b strings.Builder
	for _, name := range append(preds, "", "nosuch", "X") {
		list, e := r.Rows(name)
		fmt.Fprintf(&b, "%s %d %q %d\n", name, len(list), list, e)
		for _, row := range append(list, nil, []string{"nosuch"}, []string{"a", "a"}) {
			n, e := r.When(name, row)
			fmt.Fprintf(&b, "%q %d %d\n", row, n, e)
		}
	}
	return b.String()
}

// told writes down all that a program tells, and what follows from it.
func told(p *derive.Program) string {
	var b strings.Builder
	fmt.Fprintf(&b, "%q %d %q\n", p.Preds(), p.Clauses(), p.Text())
	for _, name := range append(p.Preds(), "", "nosuch", "X") {
		n, e := p.Stratum(name)
		fmt.Fprintf(&b, "%s %d %d\n", name, n, e)
	}
	for i := -1; i <= p.Clauses(); i++ {
		c, e := p.Clause(i)
		v, f := p.Vars(i)
		fmt.Fprintf(&b, "%d %v %d %q %d\n", i, c, e, v, f)
	}
	for _, limit := range []int{-1, 0, 1, 4096} {
		r, e := p.Run(nil, limit, 4096)
		fmt.Fprintf(&b, "%d %d\n", limit, e)
		if r != nil {
			b.WriteString(toldRun(r, p.Preds()))
		}
	}
	return b.String()
}

// samples are programs of all forms.
func samples() []string {
	return []string{
		"",
		" \n ",
		"p.",
		"p :- !q.",
		"p(a). p(b). p(a).",
		"q(b,a). q(a,b). p(X,X) :- q(X,Y).",
		"q(10). q(9). q(a). p(X) :- q(X), !r(X). r(9).",
		"a(1). b(2). c(3). p(X,Y,Z) :- a(X), b(Y), c(Z).",
		"q(a,b). p(k,Y) :- q(a,Y), q(X,b), !q(Y,X).",
		"p(X) :- r(X), !s(X). s(X) :- t(X), !u(X). r(a). r(b). r(c). t(a). t(b). u(b).",
		"n(z). s(z,a). s(a,b). s(b,c). e(z). e(Y) :- o(X), s(X,Y). o(Y) :- e(X), s(X,Y). p(X) :- e(X).",
		"p(Y) :- !q(X), r(X, Y), s(Y, Z, X).",
		"p(A,B,C) :- q(A,B,C), r(C,D,E), s, !t, u(1), !v(E,k,007).",
		"q(c,b,a). q(a,b,c). r(c,1,2). s. u(1). p(A,B,C) :- q(A,B,C), r(C,D,E), s, !t, u(1), !v(E,k,007).",
		"e(a,b). e(b,c). e(c,d). p(X,Y) :- e(X,Y). p(X,Z) :- p(X,Y), e(Y,Z).",
		"q(a,a). q(a,b). p(X) :- q(X,X).",
		"e(a,b). e(b,c). e(c,a). p(X,Y) :- e(X,Y). p(X,Z) :- p(X,Y), p(Y,Z). p(z,z). n :- p(X,X), !e(X,X).",
	}
}
