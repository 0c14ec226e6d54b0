package pool

// hand is the combiner's: leaves come to it in any order, and leave it in theirs.
type hand struct {
	waiting map[int]int // of each leaf that waits for its turn: at which place of the order it came
	folded  []int       // of each leaf that had its turn likewise
}

// take takes the leaf that came at a place of the order, and lets go all whose turn it is then.
func (h *hand) take(leaf, place int) {
	h.waiting[leaf] = place
	for {
		next := len(h.folded)
		came, ok := h.waiting[next]
		if !ok {
			return
		}
		delete(h.waiting, next)
		h.folded = append(h.folded, came)
	}
}

// inOrder tells the outputs of so many leaves, by rising leaves, sums[i] being that of order[i]; false, if there is not just one of each leaf, of inner bytes.
func inOrder(leaves, inner int, order []int, sums [][]byte) ([][]byte, bool) {
	if len(order) != leaves || len(sums) != leaves {
		return nil, false
	}
	h := hand{waiting: map[int]int{}}
	for i, leaf := range order {
		if len(sums[i]) != inner {
			return nil, false
		}
		h.take(leaf, i)
	}
	// As many came as there are leaves: if one came twice, or is none, then another never came, and never had its turn.
	if len(h.folded) != leaves {
		return nil, false
	}
	outputs := make([][]byte, leaves)
	for leaf, place := range h.folded {
		outputs[leaf] = sums[place]
	}
	return outputs, true
}
