package clauses

import (
	"derive/api"
	"derive/words"
)

// reader goes through the words of a text, one behind the other.
type reader struct {
	words []words.Word
	next  int
}

// Parse reads the clauses of a text. It is false if the words are no program.
func Parse(list []words.Word) ([]Clause, bool) {
	r := reader{words: list}
	var found []Clause
	for r.next < len(r.words) {
		c, ok := r.clause()
		if !ok {
			return nil, false
		}
		found = append(found, c)
	}
	return found, true
}

func (r *reader) clause() (Clause, bool) {
	head, ok := r.atom()
	if !ok {
		return Clause{}, false
	}
	var body []api.Lit
	if r.take(words.If) {
		body, ok = r.body()
	}
	if !ok || !r.take(words.Stop) {
		return Clause{}, false
	}
	return Clause{Head: head, Body: body}, true
}

func (r *reader) body() ([]api.Lit, bool) {
	var list []api.Lit
	more := true
	for more {
		l, ok := r.literal()
		if !ok {
			return nil, false
		}
		list = append(list, l)
		more = r.take(words.Comma)
	}
	return list, true
}

func (r *reader) literal() (api.Lit, bool) {
	not := r.take(words.Not)
	l, ok := r.atom()
	if !ok {
		return api.Lit{}, false
	}
	l.Not = not
	return l, true
}

func (r *reader) atom() (api.Lit, bool) {
	w := r.peek()
	if !r.take(words.Name) {
		return api.Lit{}, false
	}
	if !r.take(words.Open) {
		return api.Lit{Pred: w.Text}, true
	}
	terms, ok := r.terms()
	if !ok || !r.take(words.Close) {
		return api.Lit{}, false
	}
	return api.Lit{Pred: w.Text, Args: terms}, true
}

func (r *reader) terms() ([]string, bool) {
	var list []string
	more := true
	for more {
		w := r.peek()
		if !isTerm(w.Kind) {
			return nil, false
		}
		r.next++
		list = append(list, w.Text)
		more = r.take(words.Comma)
	}
	return list, true
}

func isTerm(k words.Kind) bool {
	return k == words.Name || k == words.Number || k == words.Variable
}

// peek tells the next word. Behind the last one it has the kind None.
func (r *reader) peek() words.Word {
	if r.next < 0 || r.next >= len(r.words) {
		return words.Word{}
	}
	return r.words[r.next]
}

// take goes past the next word if it is of this kind.
func (r *reader) take(k words.Kind) bool {
	w := r.peek()
	if w.Kind != k {
		return false
	}
	r.next++
	return true
}
