package clauses

import "derive/api"

// Vars is a list of variables, each once, in the order in which they came.
type Vars struct {
	names []string
}

// IsVariable tells a variable from a name or a number.
func IsVariable(term string) bool {
	return len(term) > 0 && term[0] >= 'A' && term[0] <= 'Z'
}

// Plain gives the variables of the clause's plain literals.
func (c Clause) Plain() Vars {
	var v Vars
	for _, l := range c.Body {
		if !l.Not {
			v.add(l)
		}
	}
	return v
}

// All gives the variables of the whole clause.
func (c Clause) All() Vars {
	var v Vars
	v.add(c.Head)
	for _, l := range c.Body {
		v.add(l)
	}
	return v
}

func (v *Vars) add(l api.Lit) {
	for _, t := range l.Args {
		if IsVariable(t) && !v.has(t) {
			v.names = append(v.names, t)
		}
	}
}

func (v *Vars) has(name string) bool {
	_, ok := v.Place(name)
	return ok
}

// Place tells a variable's place in the list. It is false if it is not there.
func (v *Vars) Place(name string) (int, bool) {
	for i, n := range v.names {
		if n == name {
			return i, true
		}
	}
	return 0, false
}

// Count tells how many variables there are.
func (v *Vars) Count() int { return len(v.names) }

// Names gives a copy of the list.
func (v *Vars) Names() []string { return copyStrings(v.names) }

// Cover tells whether every variable of the literal is in the list.
func (v *Vars) Cover(l api.Lit) bool {
	for _, t := range l.Args {
		if IsVariable(t) && !v.has(t) {
			return false
		}
	}
	return true
}
