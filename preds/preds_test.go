package preds

import (
	"testing"

	"derive/clauses"
	"derive/words"
)

func parse(t *testing.T, s string) []clauses.Clause {
	t.Helper()
	found, ok := words.Split(s)
	if !ok {
		t.Fatalf("Split(%q) is false", s)
	}
	list, ok := clauses.Parse(found)
	if !ok {
		t.Fatalf("Parse(%q) is false", s)
	}
	return list
}

func TestCollect(t *testing.T) {
	table, ok := Collect(parse(t, "m(a) :- z, !a(X, Y). b. m(c)."))
	want := []string{"a", "b", "m", "z"}
	names := table.Names()
	if !ok || len(names) != len(want) {
		t.Fatalf("%q, %v, want %q", names, ok, want)
	}
	for i := range want {
		if names[i] != want[i] {
			t.Errorf("name %d is %q, want %q", i, names[i], want[i])
		}
	}
	for _, s := range []string{"p. p(a).", "p :- p(a).", "q :- p(a), !p(a, b).", "a. b. c(a). c."} {
		if _, ok := Collect(parse(t, s)); ok {
			t.Errorf("Collect of %q is true", s)
		}
	}
}

func TestStratify(t *testing.T) {
	list := parse(t, "d :- !c. c :- b, d1. b :- !a, c. d1.")
	table, ok := Collect(list)
	if !ok || !table.Stratify(list) {
		t.Fatalf("no strata")
	}
	for _, c := range []struct {
		name string
		want int
	}{{"a", 0}, {"b", 1}, {"c", 1}, {"d", 2}, {"d1", 0}} {
		if n, ok := table.Stratum(c.name); n != c.want || !ok {
			t.Errorf("the stratum of %q is %d, %v, want %d", c.name, n, ok, c.want)
		}
	}
	for _, name := range []string{"", "0", "bb", "z"} {
		if n, ok := table.Stratum(name); n != 0 || ok {
			t.Errorf("the stratum of %q is %d, %v", name, n, ok)
		}
	}
}

func TestNoStrata(t *testing.T) {
	for _, s := range []string{"a :- !a.", "a :- b. b :- c. c :- !a.", "a :- b, !b. b :- a."} {
		list := parse(t, s)
		table, ok := Collect(list)
		if !ok || table.Stratify(list) {
			t.Errorf("Stratify of %q is true", s)
		}
	}
}
