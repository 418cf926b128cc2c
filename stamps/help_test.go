package stamps_test

import (
	"iter"
	"slices"

	"pleat/api"
	"pleat/samples"
)

const m, v = api.Mountain, api.Valley

// counts: how many orders there are, from one stamp on.
var counts = []int{1, 2, 6, 16, 50, 144, 462, 1392}

// shuffles: each of 1 to n once, in all orders: each number goes in at all places among the lesser ones.
func shuffles(n int) [][]int {
	if n == 0 {
		return [][]int{nil}
	}
	var out [][]int
	for _, l := range shuffles(n - 1) {
		for i := range n {
			out = append(out, slices.Insert(slices.Clone(l), i, n))
		}
	}
	return out
}

// kindLists: all lists of n kinds.
func kindLists(n int) iter.Seq[[]int] {
	return func(yield func([]int) bool) {
		for bits := range 1 << n {
			l := make([]int, n)
			for i := range l {
				l[i] = 1 + bits>>i&1
			}
			if !yield(l) {
				return
			}
		}
	}
}

// closes: going up through the pile, does each tie end where it is the last one on its side that was begun?
func closes(order []int) bool {
	open := map[string][]int{}
	for _, stamp := range order {
		for _, other := range []int{stamp - 1, stamp + 1} {
			if other < 1 || other > len(order) {
				continue
			}
			side := "west"
			if min(stamp, other)%2 == 1 {
				side = "east"
			}
			l := open[side]
			if slices.Index(order, other) > slices.Index(order, stamp) {
				open[side] = append(l, stamp)
			} else if l[len(l)-1] == other {
				open[side] = l[:len(l)-1]
			} else {
				return false
			}
		}
	}
	return true
}

// modelKinds by the chapter's words: a valley, where of the two stamps' front sides each looks towards the other stamp.
func modelKinds(order []int) []int {
	var out []int
	for stamp := 1; stamp < len(order); stamp++ {
		odd, other := stamp, stamp+1
		if stamp%2 == 0 {
			odd, other = stamp+1, stamp
		}
		if slices.Index(order, odd) < slices.Index(order, other) { // the odd one looks up, the even one down
			out = append(out, v)
		} else {
			out = append(out, m)
		}
	}
	return out
}

// model: all orders of n stamps that may be, in order.
func model(n int) [][]int {
	out := slices.DeleteFunc(shuffles(n), func(l []int) bool { return !closes(l) })
	slices.SortFunc(out, slices.Compare)
	return out
}

// strip of cells as a sheet, with these creases from west to east.
func strip(kinds []int) api.Sheet {
	var creases []api.Crease
	for i, kind := range kinds {
		creases = append(creases, samples.Crease(kind, 2*i+2, 0, 2*i+2, 2))
	}
	return samples.With(samples.Full(len(kinds)+1, 1), creases...)
}

// spare: a list with room behind it, and whether neither has been written to.
func spare(list []int) ([]int, func() bool) {
	all := append(slices.Clone(list), 77, 77, 77)
	before := slices.Clone(all)
	return all[:len(list)], func() bool { return slices.Equal(all, before) }
}

// same lists of lists?
func same(a, b [][]int) bool { return slices.EqualFunc(a, b, slices.Equal) }

// copied: the lists, each of them new.
func copied(l [][]int) [][]int {
	var out [][]int
	for _, x := range l {
		out = append(out, slices.Clone(x))
	}
	return out
}

// scribble over lists and their spare room.
func scribble(l [][]int) {
	for i := range l {
		x := l[i][:cap(l[i])]
		for j := range x {
			x[j] = -9
		}
	}
	l = l[:cap(l)]
	for i := range l {
		l[i] = nil
	}
}
