package regex

// The kinds of steps.
const (
	stepDone  = iota
	stepRead  // reads a character of the set
	stepEdge  // stands at an edge
	stepNote  // notes the place in a slot
	stepFork  // goes on with next, and if this is in vain, with other
	stepEnter // begins a repetition that must not end where it begins
	stepLeave // ends such a repetition
)

// step is a step of the ways of an expression, in which the repetitions of a quantifier are written out one by one.
type step struct {
	kind, next, other, slot int
	set                     set
	edge                    edge
}

// add adds a step and returns its number.
func (r *Regex) add(x step) int {
	r.steps = append(r.steps, x)
	return len(r.steps) - 1
}

// spot is a step that is taken at a place.
type spot struct{ step, place int }

// search is the search for matches in one text.
//
// Idle is the number of repetitions that were entered, must not end where they begin, and have read no character yet. These are always the innermost ones: a character that is read inside of a repetition is read inside of all that are around it.
//
// Where a way can lead from a spot depends on idle, but on nothing else that was before. It can lead nowhere where it could not with fewer idle ones: so a spot that was tried in vain is in vain with as many idle ones, or more.
type search struct {
	r    *Regex
	text []rune
	vain map[spot]int // the least idle with which a spot was tried in vain
}

// search returns the search in a text.
func (r *Regex) search(s string) *search {
	return &search{r, []rune(s), map[spot]int{}}
}

// find returns the bounds of the match from a place on and of its groups, or nil.
func (f *search) find(from int) []int {
	slots := make([]int, 2*f.r.groups+2)
	for i := range slots {
		slots[i] = -1
	}
	var follow func(p spot, idle int) bool
	follow = func(p spot, idle int) bool {
		p, idle, ok := f.advance(p, idle)
		if !ok {
			return false
		}
		x := &f.r.steps[p.step]
		if x.kind == stepDone {
			return true
		}
		if least, tried := f.vain[p]; tried && idle >= least {
			return false
		}
		if x.kind == stepFork {
			if follow(spot{x.next, p.place}, idle) || follow(spot{x.other, p.place}, idle) {
				return true
			}
		} else {
			before := slots[x.slot]
			slots[x.slot] = p.place
			if follow(spot{x.next, p.place}, idle) {
				return true
			}
			slots[x.slot] = before
		}
		f.vain[p] = idle
		return false
	}
	for place := from; place <= len(f.text); place++ {
		if follow(spot{f.r.start, place}, 0) {
			return slots
		}
	}
	return nil
}

// advance takes the steps from a spot on up to one that has to be tried: one with several ways, one that notes a place, or the last one. It reports false if there is no way there.
func (f *search) advance(p spot, idle int) (spot, int, bool) {
	for {
		x := &f.r.steps[p.step]
		switch x.kind {
		case stepRead:
			if p.place == len(f.text) || !x.set.has(f.text[p.place]) {
				return p, idle, false
			}
			p.place++
			idle = 0
		case stepEdge:
			if !f.isEdge(x.edge, p.place) {
				return p, idle, false
			}
		case stepEnter:
			idle++
		case stepLeave:
			if idle > 0 {
				return p, idle, false
			}
		default:
			return p, idle, true
		}
		p.step = x.next
	}
}

// isEdge reports whether a place is at an edge of the text, or of a line.
func (f *search) isEdge(x edge, place int) bool {
	if x.last {
		return place == len(f.text) || x.lines && f.text[place] == '\n'
	}
	return place == 0 || x.lines && f.text[place-1] == '\n'
}
