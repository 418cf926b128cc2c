package solve

import (
	"iter"
	"slices"

	"pleat/pile"
)

// trial: heights of triangles, stack by stack.
type trial struct{ heights []int }

func newTrial(size int) trial { return trial{make([]int, size)} }

// lay a stack in an order, from below to above.
func (t trial) lay(order []int) {
	for height, i := range order {
		t.heights[i] = height
	}
}

// goes: is nothing wrong when a stack is laid in an order?
func (t trial) goes(order []int, wrong []pile.Rule) bool {
	t.lay(order)
	above := pile.By(t.heights)
	return !slices.ContainsFunc(wrong, func(rule pile.Rule) bool { return rule(above) })
}

// shuffles: all orders of a list, each in new memory.
func shuffles(list []int) iter.Seq[[]int] {
	return func(yield func([]int) bool) {
		if len(list) == 0 {
			yield(nil)
			return
		}
		for rest := range shuffles(list[1:]) {
			for at := range list {
				if !yield(slices.Insert(slices.Clone(rest), at, list[0])) {
					return
				}
			}
		}
	}
}
