package stamps

import "pleat/api"

// tie of two neighbours: the height of the lower one, and of the higher one.
type tie struct{ low, high int }

// around: does a height lie between those of the tie?
func (t tie) around(height int) bool { return t.low < height && height < t.high }

// through: does a tie on the same side go through this one? (No stamp has two ties on one side: their heights are all different.)
func (t tie) through(other tie) bool { return t.around(other.low) != t.around(other.high) }

// heights of the stamps, the first one's at 0.
func heights(order []int) []int {
	high := make([]int, len(order))
	for i, stamp := range order {
		high[stamp-1] = i
	}
	return high
}

// ties by their sides: those at the east, then those at the west.
func ties(order []int) [2][]tie {
	var sides [2][]tie
	high := heights(order)
	for i := range len(high) - 1 {
		a, b := high[i], high[i+1]
		sides[i%2] = append(sides[i%2], tie{min(a, b), max(a, b)})
	}
	return sides
}

// goes: does no tie go through another one?
func goes(order []int) bool {
	for _, side := range ties(order) {
		for i := range side {
			for j := range i {
				if side[i].through(side[j]) {
					return false
				}
			}
		}
	}
	return true
}

// kindsOf the creases. A stamp with its front side above has its neighbour's front side to it where that one lies above it.
func kindsOf(order []int) []int {
	high := heights(order)
	kinds := make([]int, len(high)-1)
	for i := range kinds {
		frontAbove := i%2 == 0
		nextAbove := high[i] < high[i+1]
		kinds[i] = api.Mountain
		if frontAbove == nextAbove {
			kinds[i] = api.Valley
		}
	}
	return kinds
}
