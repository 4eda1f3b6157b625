package coll

// levels is the number of levels of difference.
const levels = 3

// weights are the weights of a character, one for each level.
type weights [levels]int

// ignored returns the weights that stand for those of an ignored character: no other character has them.
func ignored() weights {
	return weights{}
}

// next returns the weights of a character that is listed after one with the weights w, and differs from it at a level.
func (w weights) next(level int) weights {
	w[level]++
	for i := level + 1; i < levels; i++ {
		w[i] = 1
	}
	return w
}
