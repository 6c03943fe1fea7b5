package trie

import (
	"math/rand"
	"sort"
	"testing"
)

// less compares rows value by value.
func less(a, b Row) bool {
	for i := range a {
		if a[i] != b[i] {
			return a[i] < b[i]
		}
	}
	return false
}

// random gives a row whose values behind the depth are 0.
func random(r *rand.Rand, width, depth int) Row {
	var row Row
	for i := 0; i < depth; i++ {
		row[i] = r.Intn(width)
	}
	return row
}

func TestAgainstAMap(t *testing.T) {
	r := rand.New(rand.NewSource(4))
	for n := 0; n < 600; n++ {
		width, depth := 1+r.Intn(9), r.Intn(4)
		trie, marks := New(width, depth), map[Row]int{}
		for k := r.Intn(60); k > 0; k-- {
			row := random(r, width, depth)
			_, there := marks[row]
			if added := trie.Add(row, k); added == there {
				t.Fatalf("Add(%v) = %v, and it is there: %v", row, added, there)
			}
			if !there {
				marks[row] = k
			}
		}
		compare(t, r, trie, marks, width, depth)
	}
}

func compare(t *testing.T, r *rand.Rand, trie *Trie, marks map[Row]int, width, depth int) {
	t.Helper()
	var want []Row
	for row := range marks {
		want = append(want, row)
	}
	sort.Slice(want, func(i, k int) bool { return less(want[i], want[k]) })
	rows := trie.Rows()
	if len(rows) != len(want) || trie.Count() != len(want) {
		t.Fatalf("%d rows, Count %d, want %d", len(rows), trie.Count(), len(want))
	}
	for i, row := range want {
		if rows[i] != row {
			t.Fatalf("row %d is %v, want %v", i, rows[i], row)
		}
	}
	for k := 0; k < 40; k++ {
		row := random(r, width, depth)
		want, there := marks[row]
		if mark, ok := trie.Mark(row); mark != want || ok != there {
			t.Fatalf("Mark(%v) = %d, %v, want %d, %v", row, mark, ok, want, there)
		}
	}
}

func TestLeap(t *testing.T) {
	trie := New(9, 2)
	for _, row := range []Row{{7, 1}, {2, 8}, {2, 3}, {4, 0}, {2, 5}} {
		trie.Add(row, 0)
	}
	wantLeaps(t, trie, Root, []int{2, 2, 2, 4, 4, 7, 7, 7, -1})
	below, ok := trie.Down(Root, 2)
	if !ok {
		t.Fatalf("nothing behind 2")
	}
	wantLeaps(t, trie, below, []int{3, 3, 3, 3, 5, 5, 8, 8, 8})
	for _, v := range []int{-1, 0, 3, 8, 9, 100} {
		if below, ok := trie.Down(Root, v); below != 0 || ok {
			t.Errorf("Down(Root, %d) = %d, %v", v, below, ok)
		}
	}
	for _, at := range []int{-1, 4, 100} {
		if v, ok := trie.Leap(at, 0); v != 0 || ok {
			t.Errorf("Leap(%d, 0) = %d, %v", at, v, ok)
		}
		if below, ok := trie.Down(at, 2); below != 0 || ok {
			t.Errorf("Down(%d, 2) = %d, %v", at, below, ok)
		}
	}
}

// wantLeaps asks for the leaps from each value on; -1: there is none.
func wantLeaps(t *testing.T, trie *Trie, at int, want []int) {
	t.Helper()
	for from, least := range want {
		v, ok := trie.Leap(at, from)
		if ok != (least >= 0) || (ok && v != least) || (!ok && v != 0) {
			t.Errorf("Leap(%d, %d) = %d, %v, want %d", at, from, v, ok, least)
		}
	}
	for _, from := range []int{-1, len(want), len(want) + 1} {
		if v, ok := trie.Leap(at, from); v != 0 || ok {
			t.Errorf("Leap(%d, %d) = %d, %v", at, from, v, ok)
		}
	}
}

func TestTheRowOfNoValues(t *testing.T) {
	trie := New(0, 0)
	if _, ok := trie.Mark(Row{}); ok || trie.Count() != 0 || len(trie.Rows()) != 0 {
		t.Errorf("a new trie is not empty")
	}
	if !trie.Add(Row{}, 7) || trie.Add(Row{}, 8) {
		t.Errorf("the row of no values comes once")
	}
	if mark, ok := trie.Mark(Row{}); mark != 7 || !ok || trie.Count() != 1 || len(trie.Rows()) != 1 {
		t.Errorf("Mark = %d, %v; Count %d", mark, ok, trie.Count())
	}
}

func TestRowsThatDoNotFit(t *testing.T) {
	trie := New(3, 3)
	for _, row := range []Row{{3, 0, 0}, {0, 3, 0}, {0, 0, 3}, {-1, 0, 0}, {0, -1, 0}, {0, 0, -1}, {1 << 40, 0, 0}} {
		if trie.Add(row, 1) {
			t.Errorf("Add(%v) is true", row)
		}
		if mark, ok := trie.Mark(row); mark != 0 || ok {
			t.Errorf("Mark(%v) = %d, %v", row, mark, ok)
		}
	}
	if trie.Count() != 0 || len(trie.Rows()) != 0 {
		t.Errorf("there are rows: %v", trie.Rows())
	}
}

func TestDeeperThanARow(t *testing.T) {
	trie := New(2, 9)
	if !trie.Add(Row{1, 0, 1}, 5) {
		t.Errorf("Add is false")
	}
	if mark, ok := trie.Mark(Row{1, 0, 1}); mark != 5 || !ok {
		t.Errorf("Mark = %d, %v", mark, ok)
	}
}
