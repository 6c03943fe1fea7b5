package words

import (
	"testing"
	"unsafe"
)

func TestSplit(t *testing.T) {
	list, ok := Split("p1( Xy,12a ):-\n!q.")
	want := []Word{{Name, "p1"}, {Open, "("}, {Variable, "Xy"}, {Comma, ","}, {Number, "12"}, {Name, "a"}, {Close, ")"}, {If, ":-"}, {Not, "!"}, {Name, "q"}, {Stop, "."}}
	if !ok || len(list) != len(want) {
		t.Fatalf("%v, %v, want %v", list, ok, want)
	}
	for i := range want {
		if list[i] != want[i] {
			t.Errorf("word %d is %v, want %v", i, list[i], want[i])
		}
	}
}

func TestNoWords(t *testing.T) {
	for _, s := range []string{"", " ", "\n \n"} {
		if list, ok := Split(s); !ok || len(list) != 0 {
			t.Errorf("Split(%q) = %v, %v", s, list, ok)
		}
	}
	for _, s := range []string{":", "-", ": -", "a:", "a\t", "\x00", "\xff", "abcdefg", "Abcdefg", "1234567", "a;"} {
		if list, ok := Split(s); ok || list != nil {
			t.Errorf("Split(%q) = %v, %v, want false", s, list, ok)
		}
	}
}

// The text lies in bytes that change behind the call: a word that kept a part of it would change with them.
func TestTheTextIsNotKept(t *testing.T) {
	b := []byte("name Var 12 :-")
	list, ok := Split(unsafe.String(&b[0], len(b)))
	for i := range b {
		b[i] = '#'
	}
	want := []string{"name", "Var", "12", ":-"}
	if !ok || len(list) != len(want) {
		t.Fatalf("%v, %v, want %q", list, ok, want)
	}
	for i := range want {
		if list[i].Text != want[i] {
			t.Errorf("word %d has become %q", i, list[i].Text)
		}
	}
}
