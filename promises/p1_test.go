package promises

import (
	"math"
	"math/rand"
	"strings"
	"testing"

	"derive/api"
	"derive/derive"
)

// ask makes every call of what a text gives, and looks at the form of the answers.
func ask(t *testing.T, s string) {
	t.Helper()
	p, e := derive.Compile(s)
	if e < api.OK || e > api.ErrStrata || (p != nil) != (e == api.OK) {
		t.Fatalf("P1: Compile(%q) = %d, with a program: %v", s, e, p != nil)
	}
	if p == nil {
		return
	}
	told(p)
	for _, i := range []int{math.MinInt, -1, 0, p.Clauses() - 1, p.Clauses(), math.MaxInt} {
		c, e := p.Clause(i)
		v, f := p.Vars(i)
		inside := i >= 0 && i < p.Clauses()
		if inside && (e != api.OK || f != api.OK) {
			t.Fatalf("P7: of %q: Clause(%d) is %d, Vars(%d) is %d, want OK", s, i, e, i, f)
		}
		if !inside && (e != api.ErrPred || f != api.ErrPred || c != nil || v != nil) {
			t.Fatalf("P1: of %q: Clause(%d) = %v, %d, Vars(%d) = %q, %d, want nil, ErrPred", s, i, c, e, i, v, f)
		}
	}
	for _, name := range []string{"", " ", "nosuch", "X", "\xff", strings.Repeat("p", 1000)} {
		if n, e := p.Stratum(name); n != 0 || e != api.ErrPred {
			t.Fatalf("P1: of %q: Stratum(%q) = %d, %d, want 0, ErrPred", s, name, n, e)
		}
	}
	askRun(t, s, p)
}

// askRun runs a program with limits of all kinds, and looks at the form of what comes out.
func askRun(t *testing.T, s string, p *derive.Program) {
	t.Helper()
	for _, rows := range []int{math.MinInt, -1, 0, 1, 50, math.MaxInt} {
		for _, rounds := range []int{math.MinInt, -1, 0, 1, 50, math.MaxInt} {
			r, e := p.Run(nil, rows, rounds)
			if (e != api.OK && e != api.ErrArg && e != api.ErrLimit) || (r != nil) != (e == api.OK) {
				t.Fatalf("P1: Run(nil, %d, %d) of %q = %d, with a result: %v", rows, rounds, s, e, r != nil)
			}
			if r != nil {
				askResult(t, s, p, r)
			}
		}
	}
}

func askResult(t *testing.T, s string, p *derive.Program, r *derive.Result) {
	t.Helper()
	odd := [][]string{nil, {}, {""}, {"\xff", "X"}, {"p", "a", "1"}, make([]string, 40)}
	for _, name := range []string{"", " ", "nosuch", "X", "\xff", strings.Repeat("p", 1000)} {
		if list, e := r.Rows(name); list != nil || e != api.ErrPred {
			t.Fatalf("P1: of %q: Rows(%q) = %v, %d, want nil, ErrPred", s, name, list, e)
		}
		for _, row := range odd {
			if n, e := r.When(name, row); n != 0 || e != api.ErrPred {
				t.Fatalf("P1: of %q: When(%q, %q) = %d, %d, want 0, ErrPred", s, name, row, n, e)
			}
		}
	}
	for _, name := range p.Preds() {
		if _, e := r.Rows(name); e != api.OK {
			t.Fatalf("P1: of %q: Rows(%q) is %d, want OK", s, name, e)
		}
		for _, row := range odd {
			if n, e := r.When(name, row); (e != api.OK && e != api.ErrRow) || (e != api.OK && n != 0) {
				t.Fatalf("P1: of %q: When(%q, %q) = %d, %d", s, name, row, n, e)
			}
		}
	}
	if a, b, c := r.Counts(); a < 0 || b < 0 || c < 0 {
		t.Fatalf("P1: of %q: Counts = %d, %d, %d", s, a, b, c)
	}
}

// Lists of any length with any numbers, most of them wrong.
func TestP1AnyOrders(t *testing.T) {
	r := rand.New(rand.NewSource(2))
	numbers := []int{0, 0, 0, 1, 1, 1, 2, 2, 3, 4, 5, 6, -1, -5, 1 << 31, 1 << 32, -1 << 31, math.MinInt, math.MaxInt}
	good := 0
	for n := 0; n < 60000; n++ {
		s := samples()[r.Intn(len(samples()))]
		p := compile(t, s)
		orders := make([][]int, max(0, p.Clauses()+r.Intn(20)/18-r.Intn(20)/18))
		right := len(orders) == p.Clauses()
		for i := range orders {
			v, _ := p.Vars(i)
			switch r.Intn(12) {
			case 0:
				orders[i] = make([]int, r.Intn(8))
				for k := range orders[i] {
					orders[i][k] = numbers[r.Intn(len(numbers))]
				}
				right = right && isOrder(orders[i], len(v))
			case 1, 2, 3:
				orders[i] = r.Perm(len(v))
			}
		}
		limit := r.Intn(40) - 2
		want, _ := p.Run(nil, limit, 40)
		got, e := p.Run(orders, limit, 40)
		switch {
		case limit < 0:
			right = e == api.ErrArg && got == nil
		case !right:
			right = e == api.ErrOrder && got == nil
		case want == nil:
			right = e == api.ErrLimit && got == nil
		default:
			right = e == api.OK && got != nil && toldButMoves(got, p.Preds()) == toldButMoves(want, p.Preds())
			good++
		}
		if !right {
			t.Fatalf("P1: Run(%s, %d, 40) of %q = %d, with a result: %v", ordersText(orders), limit, s, e, got != nil)
		}
	}
	if good < 1000 {
		t.Errorf("the orders are no good: %d alone are orders", good)
	}
}

func TestP1EveryBeginningAndEveryEnd(t *testing.T) {
	for _, s := range samples() {
		for i := 0; i <= len(s); i++ {
			ask(t, s[:i])
			ask(t, s[i:])
		}
	}
}

func TestP1EveryByteInEveryPlace(t *testing.T) {
	s := "p(X) :- q(X, 1), !r."
	for i := 0; i < len(s); i++ {
		for c := 0; c < 256; c++ {
			ask(t, s[:i]+string([]byte{byte(c)})+s[i+1:])
		}
	}
}

func TestP1AllShortTexts(t *testing.T) {
	pieces := []string{"p", "X", "1", "(", ")", ",", ".", "!", ":-", " "}
	texts := []string{""}
	for length := 0; length < 5; length++ {
		var longer []string
		for _, s := range texts {
			for _, piece := range pieces {
				longer = append(longer, s+piece)
			}
		}
		texts = longer
		for _, s := range texts {
			ask(t, s)
		}
	}
}

func TestP1AnyBytes(t *testing.T) {
	r := rand.New(rand.NewSource(1))
	for n := 0; n < 5000; n++ {
		b := make([]byte, r.Intn(api.MaxText+20))
		for i := range b {
			b[i] = byte(r.Intn(256))
		}
		ask(t, string(b))
	}
}

func TestP1FullTexts(t *testing.T) {
	for _, piece := range []string{"a.", "(", ")", "!", ":-", "a:-", "a(", "a,", "a:-!b.", "p(a)", "p(a,", ".", "a ", "1", "A", ":", " ", "\n", "a:-a,"} {
		s := strings.Repeat(piece, api.MaxText/len(piece))
		ask(t, s)
		ask(t, s+strings.Repeat(" ", api.MaxText-len(s)))
	}
	wantError(t, strings.Repeat("p(a).", 1<<20), api.ErrLong)
	wantError(t, strings.Repeat("\x00", 1<<22), api.ErrLong)
}
