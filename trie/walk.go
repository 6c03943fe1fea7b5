package trie

type walker struct {
	trie *Trie
	row  Row
	rows []Row
}

// Rows gives all rows, rising value by value.
func (t *Trie) Rows() []Row {
	w := walker{trie: t}
	w.walk(Root, 0)
	return w.rows
}

// walk goes through all that stands behind a node, as many values behind the root as level tells.
func (w *walker) walk(at, level int) {
	if level >= len(w.row) {
		return
	}
	v, ok := w.trie.Leap(at, 0)
	for ok {
		w.row[level] = v
		if level+1 >= w.trie.depth {
			w.rows = append(w.rows, w.row)
		} else {
			below, _ := w.trie.Down(at, v)
			w.walk(below, level+1)
		}
		v, ok = w.trie.Leap(at, v+1)
	}
}
