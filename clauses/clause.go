// Package clauses holds the clauses of a text: how they are read (P4), which variables they have, and how they are written anew (P7).
package clauses

import "derive/api"

// Clause is a head and a body. A fact has an empty body.
type Clause struct {
	Head api.Lit
	Body []api.Lit
}

// Lits gives a copy of the clause's literals, the head first.
func (c Clause) Lits() []api.Lit {
	list := make([]api.Lit, 1+len(c.Body))
	list[0] = copyLit(c.Head)
	for i, l := range c.Body {
		list[1+i] = copyLit(l)
	}
	return list
}

func copyLit(l api.Lit) api.Lit {
	return api.Lit{Not: l.Not, Pred: l.Pred, Args: copyStrings(l.Args)}
}

// copyStrings makes its list just as long as it is, so that there is no spare room behind it.
func copyStrings(list []string) []string {
	out := make([]string, len(list))
	for i, s := range list {
		out[i] = s
	}
	return out
}

// Text writes the clause, without a line break.
func (c Clause) Text() string {
	s := litText(c.Head)
	for i, l := range c.Body {
		if i == 0 {
			s += " :- "
		} else {
			s += ", "
		}
		s += litText(l)
	}
	return s + "."
}

func litText(l api.Lit) string {
	s := l.Pred
	if l.Not {
		s = "!" + s
	}
	if len(l.Args) == 0 {
		return s
	}
	return s + "(" + termsText(l.Args) + ")"
}

func termsText(terms []string) string {
	s := ""
	for i, t := range terms {
		if i > 0 {
			s += ", "
		}
		s += t
	}
	return s
}
