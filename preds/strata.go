package preds

import "derive/clauses"

// Stratify gives the predicates their strata. It is false if they have none.
//
// A stratum is the most negations on a way down from a predicate. Where there are strata, such a way need not meet a
// predicate twice, so as many passes as there are predicates raise all that is to be raised, and one more is still.
func (t *Table) Stratify(list []clauses.Clause) bool {
	for pass := 0; pass <= len(t.preds); pass++ {
		if !t.raiseHeads(list) {
			return true
		}
	}
	return false
}

// raiseHeads tells whether there was a head to raise.
func (t *Table) raiseHeads(list []clauses.Clause) bool {
	raised := false
	for _, c := range list {
		least := t.leastOfHead(c)
		if t.raise(c.Head.Pred, least) {
			raised = true
		}
	}
	return raised
}

// leastOfHead tells the least stratum that the clause's body leaves its head.
func (t *Table) leastOfHead(c clauses.Clause) int {
	least := 0
	for _, l := range c.Body {
		n, ok := t.Stratum(l.Pred)
		if ok && l.Not {
			n++
		}
		if n > least {
			least = n
		}
	}
	return least
}

func (t *Table) raise(name string, least int) bool {
	i, ok := t.Find(name)
	if !ok || t.preds[i].stratum >= least {
		return false
	}
	t.preds[i].stratum = least
	return true
}
