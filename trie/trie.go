// Package trie holds sets of rows of values, sorted: the values that go on behind a row's first ones can be gone through
// rising, and leapt over.
package trie

import "derive/api"

// Row is a row of values. What stands in it behind the row's end is 0.
type Row [api.MaxArity]int

// node is the place behind some first values of rows.
type node struct {
	leap []int // for each value the least one not below it that goes on here; the width if there is none
	down []int // for each value that goes on here what is behind it: a node's number, or, where rows end, a mark
}

// Trie is a set of rows, each with a mark.
type Trie struct {
	width int
	depth int
	nodes []node
	count int
}

// Root is the node ahead of the first values.
const Root = 0

// New gives an empty set for rows of so many values (depth), each of them 0 to width - 1.
//
// The row of no values is held as the row of one value, 0. So it needs no form of its own, but room for that one value.
func New(width, depth int) *Trie {
	if width < 1 {
		width = 1
	}
	if depth < 1 {
		depth = 1
	}
	if depth > api.MaxArity {
		depth = api.MaxArity
	}
	t := &Trie{width: width, depth: depth}
	t.grow()
	return t
}

// grow adds an empty node and tells its number.
func (t *Trie) grow() int {
	n := node{leap: make([]int, t.width), down: make([]int, t.width)}
	for v := range n.leap {
		n.leap[v] = t.width
	}
	t.nodes = append(t.nodes, n)
	return len(t.nodes) - 1
}

// Count tells how many rows there are.
func (t *Trie) Count() int { return t.count }

// Leap tells the least value not below another that goes on at a node. It is false if there is none.
func (t *Trie) Leap(at, from int) (int, bool) {
	if at < 0 || at >= len(t.nodes) || from < 0 || from >= t.width {
		return 0, false
	}
	v := t.nodes[at].leap[from]
	if v >= t.width {
		return 0, false
	}
	return v, true
}

// Down tells what is behind a value of a node: the next node, or, where rows end, the row's mark. It is false if the
// value does not go on there.
func (t *Trie) Down(at, v int) (int, bool) {
	least, ok := t.Leap(at, v)
	if !ok || least != v {
		return 0, false
	}
	return t.nodes[at].down[v], true
}

// put lets a value go on at a node.
func (t *Trie) put(at, v, down int) {
	if at < 0 || at >= len(t.nodes) || v < 0 || v >= t.width {
		return
	}
	t.nodes[at].down[v] = down
	for u := v; u >= 0 && t.nodes[at].leap[u] > v; u-- {
		t.nodes[at].leap[u] = v
	}
}

// Add adds a row. It is false if the row is there already, or has a value that there is not.
func (t *Trie) Add(row Row, mark int) bool {
	if !t.fits(row) {
		return false
	}
	at := Root
	for level, v := range row {
		if level+1 >= t.depth {
			return t.end(at, v, mark)
		}
		at = t.behind(at, v)
	}
	return false
}

func (t *Trie) fits(row Row) bool {
	for _, v := range row {
		if v < 0 || v >= t.width {
			return false
		}
	}
	return true
}

// behind tells the node behind a value, and makes it if there is none.
func (t *Trie) behind(at, v int) int {
	below, ok := t.Down(at, v)
	if !ok {
		below = t.grow()
		t.put(at, v, below)
	}
	return below
}

func (t *Trie) end(at, v, mark int) bool {
	_, there := t.Down(at, v)
	if there {
		return false
	}
	t.put(at, v, mark)
	t.count++
	return true
}

// Mark tells a row's mark. It is false if the row is not there.
func (t *Trie) Mark(row Row) (int, bool) {
	at := Root
	for level, v := range row {
		below, ok := t.Down(at, v)
		if !ok {
			return 0, false
		}
		if level+1 >= t.depth {
			return below, true
		}
		at = below
	}
	return 0, false
}
