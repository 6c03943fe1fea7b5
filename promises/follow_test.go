package promises

import (
	"math/rand"
	"sort"
	"strings"
	"testing"

	"derive/api"
	"derive/derive"
)

// The oracle of P8 takes the promise by its words: in each round it tries every rule with every choice of one row for each
// plain literal, among all rows that were there at the round's beginning.

type followed struct {
	when   map[string]map[string]int // predicate, row, round
	rounds int
}

func rowKey(row []string) string { return strings.Join(row, ",") }

func isVar(term string) bool { return term[0] >= 'A' && term[0] <= 'Z' }

func (f *followed) count() int {
	n := 0
	for _, rows := range f.when {
		n += len(rows)
	}
	return n
}

// follow works out what follows from what the oracle read.
func follow(o *oracle) *followed {
	f := &followed{when: map[string]map[string]int{}}
	top := 0
	for name, n := range o.strata {
		f.when[name] = map[string]int{}
		top = max(top, n)
	}
	for _, c := range o.clauses {
		if len(c) == 1 {
			f.when[c[0].Pred][rowKey(c[0].Args)] = 0
		}
	}
	for stratum := 0; stratum <= top; stratum++ {
		var rules [][]api.Lit
		for _, c := range o.clauses {
			if len(c) > 1 && o.strata[c[0].Pred] == stratum {
				rules = append(rules, c)
			}
		}
		for more := len(rules) > 0; more; {
			more = f.round(rules)
		}
	}
	return f
}

// round tells whether something new came.
func (f *followed) round(rules [][]api.Lit) bool {
	f.rounds++
	said := map[string]map[string]bool{}
	for _, c := range rules {
		if said[c[0].Pred] == nil {
			said[c[0].Pred] = map[string]bool{}
		}
		f.try(c, c[1:], map[string]string{}, said[c[0].Pred])
	}
	fresh := false
	for name, rows := range said {
		for row := range rows {
			if _, ok := f.when[name][row]; !ok {
				f.when[name][row] = f.rounds
				fresh = true
			}
		}
	}
	return fresh
}

func filled(l api.Lit, values map[string]string) string {
	row := make([]string, len(l.Args))
	for i, a := range l.Args {
		row[i] = a
		if isVar(a) {
			row[i] = values[a]
		}
	}
	return rowKey(row)
}

// try takes the rest of a body, one plain literal behind the other; the negated ones wait until all is known.
func (f *followed) try(c, rest []api.Lit, values map[string]string, said map[string]bool) {
	if len(rest) == 0 {
		for _, l := range c[1:] {
			if _, there := f.when[l.Pred][filled(l, values)]; l.Not && there {
				return
			}
		}
		said[filled(c[0], values)] = true
		return
	}
	if rest[0].Not {
		f.try(c, rest[1:], values, said)
		return
	}
	for key := range f.when[rest[0].Pred] {
		var row []string
		if len(rest[0].Args) > 0 {
			row = strings.Split(key, ",")
		}
		with := map[string]string{}
		for v, s := range values {
			with[v] = s
		}
		fits := true
		for i, a := range rest[0].Args {
			s, known := with[a]
			switch {
			case !isVar(a):
				fits = fits && a == row[i]
			case known:
				fits = fits && s == row[i]
			default:
				with[a] = row[i]
			}
		}
		if fits {
			f.try(c, rest[1:], with, said)
		}
	}
}

// rows gives the rows of a predicate, sorted term by term.
func (f *followed) rows(pred string, arity int) [][]string {
	var list [][]string
	for key := range f.when[pred] {
		row := []string{}
		if arity > 0 {
			row = strings.Split(key, ",")
		}
		list = append(list, row)
	}
	sort.Slice(list, func(i, k int) bool {
		for n := range list[i] {
			if list[i][n] != list[k][n] {
				return list[i][n] < list[k][n]
			}
		}
		return false
	})
	return list
}

// compareRun asks the program and the oracle what follows, and gives what the oracle says.
func compareRun(t *testing.T, s string) *followed {
	t.Helper()
	o, e := consult(s)
	if e != api.OK {
		t.Fatalf("%q is no program: %d", s, e)
	}
	f := follow(o)
	p := compile(t, s)
	r, e := p.Run(nil, f.count(), f.rounds)
	if e != api.OK || r == nil {
		t.Fatalf("P8: Run(nil, %d, %d) of %q = %d, want a result", f.count(), f.rounds, s, e)
	}
	compareResult(t, s, o, f, r)
	if f.count() > 0 {
		wantRun(t, s, f.count()-1, f.rounds, api.ErrLimit)
		wantRun(t, s, f.count()-1, api.MaxLimit, api.ErrLimit)
	}
	if f.rounds > 0 {
		wantRun(t, s, f.count(), f.rounds-1, api.ErrLimit)
		wantRun(t, s, api.MaxLimit, f.rounds-1, api.ErrLimit)
	}
	return f
}

func compareResult(t *testing.T, s string, o *oracle, f *followed, r *derive.Result) {
	t.Helper()
	if rows, rounds, moves := r.Counts(); rows != f.count() || rounds != f.rounds || moves < 0 {
		t.Fatalf("P10: Counts of %q = %d, %d, %d, want %d, %d", s, rows, rounds, moves, f.count(), f.rounds)
	}
	for name, arity := range o.arity {
		want := f.rows(name, arity)
		got, e := r.Rows(name)
		if e != api.OK || rowsText(got) != rowsText(want) {
			t.Fatalf("P9: Rows(%q) of %q = %s, %d, want %s", name, s, rowsText(got), e, rowsText(want))
		}
		for _, row := range want {
			if n, e := r.When(name, row); n != f.when[name][rowKey(row)] || e != api.OK {
				t.Fatalf("P10: When(%q, %q) of %q = %d, %d, want %d", name, row, s, n, e, f.when[name][rowKey(row)])
			}
		}
	}
}

// ruleWriter writes programs from which something follows. A predicate's name tells its number of terms: one less than it is long.
type ruleWriter struct {
	r *rand.Rand
}

func (w ruleWriter) pick(list string) string {
	l := strings.Fields(list)
	return l[w.r.Intn(len(l))]
}

func (w ruleWriter) atom(name, terms string) string {
	var list []string
	for range len(name) - 1 {
		list = append(list, w.pick(terms))
	}
	if len(list) == 0 {
		return name
	}
	return name + rowText(list)
}

func (w ruleWriter) fact() string {
	return w.atom(w.pick("z az bz ez1 fz1 ez1 fz1 tz12 pz pz1"), "a b c 9 10") + "."
}

// rule writes a rule whose head and negated literals have variables of its plain ones alone, or none.
func (w ruleWriter) rule() string {
	var body []string
	vars := ""
	for n := w.r.Intn(4); n >= 0; n-- {
		l := w.atom(w.pick("z az bz ez1 ez1 fz1 tz12 pz pz1 pz1 pz12"), "X X Y Y Z V a")
		body = append(body, l)
		for _, v := range []string{"X", "Y", "Z", "V"} {
			if strings.Contains(l, v) {
				vars += " " + v
			}
		}
	}
	for w.r.Intn(3) == 0 && len(body) < api.MaxBody {
		i := w.r.Intn(len(body) + 1)
		not := "!" + w.atom(w.pick("az ez1 fz1 pz pz1 nz12 n"), vars+vars+vars+" b 9")
		body = append(body[:i:i], append([]string{not}, body[i:]...)...)
	}
	return w.atom(w.pick("pz pz1 pz1 pz12 rz rz1 s az ez1"), vars+vars+vars+" a 10") + ":-" + strings.Join(body, ",") + "."
}

// way writes rules that take several rounds.
func (w ruleWriter) way() []string {
	first := "pz1(X,Y):-ez1(X,Y)" + w.pick(", .")
	if strings.HasSuffix(first, ",") {
		first += w.atom(w.pick("az bz fz1"), "X Y") + "."
	}
	return []string{first, w.pick("pz1(X,Z):-pz1(X,Y),ez1(Y,Z). pz1(X,Z):-ez1(X,Y),pz1(Y,Z). pz1(X,Z):-pz1(X,Y),pz1(Y,Z). pz1(Z,Y):-ez1(Y,Z),pz1(X,Y).")}
}

func (w ruleWriter) text() string {
	var list []string
	if w.r.Intn(2) == 0 {
		list = w.way()
		for n := w.r.Intn(10); n > 0; n-- {
			list = append(list, w.atom("ez1", "a b c d e 9 10")+".")
		}
	}
	for n := 4 + w.r.Intn(12); n > 0; n-- {
		list = append(list, w.fact())
	}
	for n := 1 + w.r.Intn(5); n > 0; n-- {
		list = append(list, w.rule())
	}
	w.r.Shuffle(len(list), func(i, k int) { list[i], list[k] = list[k], list[i] })
	return strings.Join(list, "")
}

func TestP8AgainstTheOracle(t *testing.T) {
	w := ruleWriter{r: rand.New(rand.NewSource(3))}
	done, long, late, negated := 0, 0, 0, 0
	for done < 3000 {
		s := w.text()
		if _, e := consult(s); e != api.OK {
			continue
		}
		f := compareRun(t, s)
		done++
		last := 0
		for _, rows := range f.when {
			for _, n := range rows {
				last = max(last, n)
			}
		}
		if f.rounds > 4 {
			long++
		}
		if last > 2 {
			late++
		}
		if strings.Contains(s, "!") && last > 0 {
			negated++
		}
	}
	if long < 100 || late < 200 || negated < 500 {
		t.Errorf("the texts are no good: %d have many rounds, %d late rows, %d a negated literal", long, late, negated)
	}
}

func TestP8SamplesAgainstTheOracle(t *testing.T) {
	for _, s := range samples() {
		compareRun(t, s)
	}
}
