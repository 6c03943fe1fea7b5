package consts

import (
	"testing"

	"derive/clauses"
	"derive/words"
)

func collect(t *testing.T, s string) Table {
	t.Helper()
	found, ok := words.Split(s)
	if !ok {
		t.Fatalf("Split(%q) is false", s)
	}
	list, ok := clauses.Parse(found)
	if !ok {
		t.Fatalf("Parse(%q) is false", s)
	}
	return Collect(list)
}

func TestCollect(t *testing.T) {
	table := collect(t, "p(b,10,X) :- q(X,9), !r(a,010). s. p(b,aa,9). q(Z9,z).")
	want := []string{"010", "10", "9", "a", "aa", "b", "z"}
	if table.Count() != len(want) {
		t.Fatalf("%d values, want %d: %v", table.Count(), len(want), table)
	}
	for i, name := range want {
		if v, ok := table.Value(name); v != i || !ok || table.Name(i) != name {
			t.Errorf("%q has the value %d, %v; value %d is %q", name, v, ok, i, table.Name(i))
		}
	}
	for _, name := range []string{"", "X", "Z9", "p", "s", "0", "99", "aaa", "zz", "~"} {
		if v, ok := table.Value(name); v != 0 || ok {
			t.Errorf("%q has the value %d, %v", name, v, ok)
		}
	}
	for _, v := range []int{-1, len(want), 1 << 40} {
		if name := table.Name(v); name != "" {
			t.Errorf("value %d is %q", v, name)
		}
	}
}

func TestNone(t *testing.T) {
	table := collect(t, "p. q(X) :- r(X).")
	if v, ok := table.Value("p"); table.Count() != 0 || v != 0 || ok {
		t.Errorf("%v", table)
	}
}
