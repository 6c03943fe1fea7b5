package join

// agree tells the least value of a variable, not below another, that all sides allow that have the variable. It is false
// if there is none.
//
// The sides leap in turn, each to where the one ahead of it stands or beyond, until all stand at one value.
func (j *Join) agree(place, from int) (int, bool) {
	if place < 0 || place >= len(j.holds) || len(j.holds[place]) == 0 {
		return 0, false
	}
	at := from
	same, turn := 0, 0
	for same < len(j.holds[place]) {
		v, ok := j.leap(j.holds[place][turn], at)
		if !ok {
			return 0, false
		}
		if v > at {
			at = v
			same = 0
		}
		same++
		turn++
		if turn >= len(j.holds[place]) {
			turn = 0
		}
	}
	return at, true
}

// leap is a move: to a variable's first value that a side allows and that is not below another. From 0 it comes to the
// first of all, from one more than the value before to the next one.
func (j *Join) leap(h hold, from int) (int, bool) {
	if !j.stands(h) {
		return 0, false
	}
	j.moves++
	return j.sides[h.side].rows.Leap(j.sides[h.side].nodes[h.level], from)
}

func (j *Join) stands(h hold) bool {
	return h.side >= 0 && h.side < len(j.sides) && h.level >= 0 && h.level < len(j.sides[h.side].nodes)
}

// take gives a variable a value on which its sides agree. The variable behind it begins anew.
func (j *Join) take(place, v int) {
	if place < 0 || place >= len(j.values) {
		return
	}
	j.values[place] = v
	j.from[place] = v + 1
	if place+1 < len(j.from) {
		j.from[place+1] = 0
	}
	for _, h := range j.holds[place] {
		j.down(h, v)
	}
}

// down goes on to the node behind a value. Behind a side's last variable there is nothing that would be asked for.
func (j *Join) down(h hold, v int) {
	if !j.stands(h) || h.level+1 >= len(j.sides[h.side].nodes) {
		return
	}
	below, _ := j.sides[h.side].rows.Down(j.sides[h.side].nodes[h.level], v)
	j.sides[h.side].nodes[h.level+1] = below
}
