package regex

// unbounded stands for the greatest number of repetitions, if there is none.
const unbounded = -1

// noGroup is the number of what is in brackets and is no group.
const noGroup = -1

// part is a part of a pattern.
type part interface {
	// weight returns the weight of the part, or any number above maxWeight if it is above it.
	weight() int
	// build adds the steps of the part to r, which lead to the step next, and returns the first one.
	build(r *Regex, next int) int
}

// edge is the sign for the beginning or, with last, for the end of a text, and with lines also of its lines.
type edge struct{ last, lines bool }

// group is a pattern in brackets, with its number, or noGroup.
type group struct {
	n     int
	inner part
}

// row is a branch: pieces one after the other.
type row []part

// branches is a pattern.
type branches []part

// repeated is an atom with a quantifier.
type repeated struct {
	inner       part
	least, most int
	lazy        bool
}

func (set) weight() int { return 1 }

func (edge) weight() int { return 1 }

func (x group) weight() int { return 1 + x.inner.weight() }

func (l row) weight() int { return sum(l) }

func (l branches) weight() int { return sum(l) + len(l) - 1 }

func (x repeated) weight() int {
	times := max(x.most, 1)
	if x.most == unbounded {
		times = x.least + 1
	}
	// Without this bound, quantifiers in each other would make the product too great for an int.
	return min(x.inner.weight(), maxWeight+1) * times
}

// sum returns the sum of the weights of parts.
func sum(l []part) int {
	n := 0
	for _, x := range l {
		n += min(x.weight(), maxWeight+1)
	}
	return n
}

func (s set) build(r *Regex, next int) int {
	return r.add(step{kind: stepRead, set: s, next: next})
}

func (x edge) build(r *Regex, next int) int {
	return r.add(step{kind: stepEdge, edge: x, next: next})
}

func (x group) build(r *Regex, next int) int {
	if x.n == noGroup {
		return x.inner.build(r, next)
	}
	next = x.inner.build(r, r.add(step{kind: stepNote, slot: 2*x.n + 1, next: next}))
	return r.add(step{kind: stepNote, slot: 2 * x.n, next: next})
}

func (l row) build(r *Regex, next int) int {
	for i := range l {
		next = l[len(l)-1-i].build(r, next)
	}
	return next
}

func (l branches) build(r *Regex, next int) int {
	first := l[len(l)-1].build(r, next)
	for i := len(l) - 2; i >= 0; i-- {
		first = r.add(step{kind: stepFork, next: l[i].build(r, next), other: first})
	}
	return first
}

func (x repeated) build(r *Regex, next int) int {
	first := next
	if x.most == unbounded {
		// The fork is there before the steps that lead back to it.
		first = r.add(step{kind: stepFork})
		again := x.once(r, first)
		r.steps[first] = x.choice(again, next)
	} else {
		for range x.most - x.least {
			first = r.add(x.choice(x.once(r, first), next))
		}
	}
	for range x.least {
		first = x.inner.build(r, first)
	}
	return first
}

// once builds a repetition that need not be, and must not end where it begins.
func (x repeated) once(r *Regex, next int) int {
	next = x.inner.build(r, r.add(step{kind: stepLeave, next: next}))
	return r.add(step{kind: stepEnter, next: next})
}

// choice returns the fork between one more repetition and none.
func (x repeated) choice(again, none int) step {
	if x.lazy {
		return step{kind: stepFork, next: none, other: again}
	}
	return step{kind: stepFork, next: again, other: none}
}
