package promises

import (
	"math/rand"
	"regexp"
	"sort"
	"strings"
	"testing"

	"derive/api"
	"derive/derive"
)

// The oracle works out P3 to P7 by other ways than a program would: the grammar as one regular expression over the
// kinds of words, the strata by what reaches what.

var (
	oracleWord    = regexp.MustCompile(`^(?:[a-z][a-zA-Z0-9]*|[A-Z][a-zA-Z0-9]*|[0-9]+|:-|[(),.!])`)
	oracleProgram = regexp.MustCompile(`^(?:n(?:\([nvd](?:,[nvd])*\))?(?:-!?n(?:\([nvd](?:,[nvd])*\))?(?:,!?n(?:\([nvd](?:,[nvd])*\))?)*)?\.)*$`)
	oracleLit     = regexp.MustCompile(`!?[a-z][a-zA-Z0-9]*(?:\([^)]*\))?`)
)

type oracle struct {
	clauses [][]api.Lit
	arity   map[string]int
	strata  map[string]int
	text    string
}

// oracleWords gives the words, joined, and their kinds, a letter each; false: ErrLex.
func oracleWords(s string) (string, string, bool) {
	joined, kinds := "", ""
	for {
		s = strings.TrimLeft(s, " \n")
		if s == "" {
			return joined, kinds, true
		}
		w := oracleWord.FindString(s)
		if w == "" || len(w) > 6 {
			return "", "", false
		}
		switch c := w[0]; {
		case c >= 'a' && c <= 'z':
			kinds += "n"
		case c >= 'A' && c <= 'Z':
			kinds += "v"
		case c >= '0' && c <= '9':
			kinds += "d"
		case w == ":-":
			kinds += "-"
		default:
			kinds += w
		}
		joined += w
		s = s[len(w):]
	}
}

func oracleClauses(joined string) [][]api.Lit {
	var list [][]api.Lit
	for _, s := range strings.SplitAfter(joined, ".") {
		if s == "" {
			continue
		}
		var c []api.Lit
		for _, l := range oracleLit.FindAllString(s, -1) {
			name, rest, _ := strings.Cut(strings.TrimPrefix(l, "!"), "(")
			lit := api.Lit{Not: strings.HasPrefix(l, "!"), Pred: name}
			if rest != "" {
				lit.Args = strings.Split(strings.TrimSuffix(rest, ")"), ",")
			}
			c = append(c, lit)
		}
		list = append(list, c)
	}
	return list
}

func oracleVars(lits []api.Lit) map[string]bool {
	set := map[string]bool{}
	for _, l := range lits {
		for _, a := range l.Args {
			if a[0] >= 'A' && a[0] <= 'Z' {
				set[a] = true
			}
		}
	}
	return set
}

func (o *oracle) many() bool {
	for _, c := range o.clauses {
		if len(c) > 7 || len(oracleVars(c)) > 5 {
			return true
		}
		for _, l := range c {
			if len(l.Args) > 3 {
				return true
			}
		}
	}
	return false
}

func (o *oracle) mixed() bool {
	o.arity = map[string]int{}
	for _, c := range o.clauses {
		for _, l := range c {
			if n, ok := o.arity[l.Pred]; ok && n != len(l.Args) {
				return true
			}
			o.arity[l.Pred] = len(l.Args)
		}
	}
	return false
}

func (o *oracle) unsafe() bool {
	for _, c := range o.clauses {
		ask, bound := []api.Lit{c[0]}, []api.Lit(nil)
		for _, l := range c[1:] {
			if l.Not {
				ask = append(ask, l)
			} else {
				bound = append(bound, l)
			}
		}
		has := oracleVars(bound)
		for v := range oracleVars(ask) {
			if !has[v] {
				return true
			}
		}
	}
	return false
}

// noStrata works out which predicate reaches which, and from that the strata.
func (o *oracle) noStrata() bool {
	reach := map[[2]string]bool{}
	var negated [][2]string
	for name := range o.arity {
		reach[[2]string{name, name}] = true
	}
	for _, c := range o.clauses {
		for _, l := range c[1:] {
			reach[[2]string{c[0].Pred, l.Pred}] = true
			if l.Not {
				negated = append(negated, [2]string{c[0].Pred, l.Pred})
			}
		}
	}
	for by := range o.arity {
		for from := range o.arity {
			for to := range o.arity {
				if reach[[2]string{from, by}] && reach[[2]string{by, to}] {
					reach[[2]string{from, to}] = true
				}
			}
		}
	}
	for _, n := range negated {
		if reach[[2]string{n[1], n[0]}] {
			return true
		}
	}
	o.strata = map[string]int{}
	for name := range o.arity {
		o.strata[name] = height(name, reach, negated)
	}
	return false
}

func height(name string, reach map[[2]string]bool, negated [][2]string) int {
	most := 0
	for _, n := range negated {
		if reach[[2]string{name, n[0]}] {
			most = max(most, 1+height(n[1], reach, negated))
		}
	}
	return most
}

func consult(s string) (*oracle, api.Errno) {
	if len(s) > 500 {
		return nil, api.ErrLong
	}
	joined, kinds, ok := oracleWords(s)
	if !ok {
		return nil, api.ErrLex
	}
	if !oracleProgram.MatchString(kinds) {
		return nil, api.ErrParse
	}
	o := &oracle{clauses: oracleClauses(joined)}
	switch {
	case o.many():
		return nil, api.ErrMany
	case o.mixed():
		return nil, api.ErrArity
	case o.unsafe():
		return nil, api.ErrSafe
	case o.noStrata():
		return nil, api.ErrStrata
	}
	o.text = strings.NewReplacer(",", ", ", ":-", " :- ", ".", ".\n").Replace(joined)
	return o, api.OK
}

func (o *oracle) preds() []string {
	var list []string
	for name := range o.arity {
		list = append(list, name)
	}
	sort.Strings(list)
	return list
}

func (o *oracle) vars(i int) []string {
	var list []string
	seen := map[string]bool{}
	for _, l := range o.clauses[i][1:] {
		for _, a := range l.Args {
			if !l.Not && a[0] >= 'A' && a[0] <= 'Z' && !seen[a] {
				seen[a] = true
				list = append(list, a)
			}
		}
	}
	return list
}

// compare asks the program and the oracle, and gives the error that both tell.
func compare(t *testing.T, s string) api.Errno {
	t.Helper()
	o, want := consult(s)
	p, e := derive.Compile(s)
	if e != want || (p != nil) != (e == api.OK) {
		t.Fatalf("P5: Compile(%q) = %d, with a program: %v; want %d", s, e, p != nil, want)
	}
	if p == nil {
		return e
	}
	if got := p.Preds(); !sameStrings(got, o.preds()) {
		t.Fatalf("P7: Preds of %q = %q, want %q", s, got, o.preds())
	}
	if p.Text() != o.text || p.Clauses() != len(o.clauses) {
		t.Fatalf("P7: of %q: %d clauses, text %q, want %d, %q", s, p.Clauses(), p.Text(), len(o.clauses), o.text)
	}
	for name, n := range o.strata {
		if got, e := p.Stratum(name); got != n || e != api.OK {
			t.Fatalf("P6: Stratum(%q) of %q = %d, %d, want %d", name, s, got, e, n)
		}
	}
	for i, c := range o.clauses {
		if got, e := p.Clause(i); e != api.OK || !sameLits(got, c) {
			t.Fatalf("P7: Clause(%d) of %q = %v, %d, want %v", i, s, got, e, c)
		}
		if got, e := p.Vars(i); e != api.OK || !sameStrings(got, o.vars(i)) {
			t.Fatalf("P7: Vars(%d) of %q = %q, %d, want %q", i, s, got, e, o.vars(i))
		}
	}
	return e
}

type writer struct {
	r    *rand.Rand
	rare int // in one of so many places it slips
	most int // so many clauses at the most
}

func (w writer) blank() string {
	return []string{"", "", "", " ", "\n"}[w.r.Intn(5)]
}

func (w writer) slip() bool { return w.r.Intn(w.rare) == 0 }

func (w writer) pick(list string) string {
	l := strings.Fields(list)
	return l[w.r.Intn(len(l))]
}

// atom writes an atom; each name has its own number of terms, but for a slip.
func (w writer) atom(preds string, terms string) string {
	name := w.pick(preds)
	n := len(name) - 1
	if w.slip() {
		n = w.r.Intn(5)
	}
	if n == 0 {
		return name
	}
	var list []string
	for i := 0; i < n; i++ {
		list = append(list, w.blank()+w.pick(terms)+w.blank())
	}
	return name + w.blank() + "(" + strings.Join(list, ",") + ")"
}

func (w writer) clause() string {
	if w.r.Intn(4) == 0 {
		terms := "a b1 10 010"
		if w.slip() {
			terms = "a X"
		}
		return w.atom("p q pa qb rcc sddd", terms) + w.blank() + "."
	}
	body := w.atom("p q pa qb rcc sddd", "X Y Z a 9") + "," + w.blank() + w.atom("rcc sddd", "X Y")
	last := 1 + w.r.Intn(3)
	if w.slip() {
		last += 3
	}
	for i := 0; i < last; i++ {
		body += w.blank() + ","
		if w.r.Intn(4) == 0 {
			body += "!" + w.blank()
		}
		body += w.atom("p q t pa qb ue rcc sddd", "X X X Y Y a")
	}
	return w.atom("p q pa qb", "X Y b") + w.blank() + ":-" + w.blank() + body + "."
}

func (w writer) text() string {
	s := ""
	for n := w.r.Intn(w.most + 1); n > 0; n-- {
		s += w.blank() + w.clause()
	}
	if w.slip() && len(s) > 0 {
		i := w.r.Intn(len(s))
		s = s[:i] + w.pick("p X 1 ( ) , . ! :- : - # abcdef A12345") + s[i+w.r.Intn(2):]
	}
	return s
}

func TestOracle(t *testing.T) {
	w := writer{r: rand.New(rand.NewSource(2))}
	var seen [8]int
	for n := 0; n < 12000; n++ {
		w.rare = 3 + n%60
		w.most = 2 + n%11
		seen[compare(t, w.text())]++
	}
	for e, n := range seen {
		if n < 10 {
			t.Errorf("the texts are no good: error %d came only %d times: %v", e, n, seen)
		}
	}
}

func TestOracleOfSamples(t *testing.T) {
	for _, s := range samples() {
		if e := compare(t, s); e != api.OK {
			t.Errorf("Compile(%q) = %d", s, e)
		}
	}
}
