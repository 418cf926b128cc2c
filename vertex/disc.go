package vertex

import (
	"iter"

	"pleat/api"
)

// disc around a point, folded flat: of each crease its place, on the line along which the sectors come to lie.
type disc []int

// lay the disc with these angles.
func lay(angles []int) disc {
	return along(angles)[:len(angles)]
}

// along a line: the place where the first sector begins, and those where each one ends; every other sector goes back.
func along(angles []int) []int {
	places := make([]int, 1, len(angles)+1)
	for j, angle := range angles {
		if j%2 != 0 {
			angle = -angle
		}
		places = append(places, places[j]+angle)
	}
	return places
}

// ways: all lists of kinds with which the disc goes, in order.
func (d disc) ways() iter.Seq[[]int] {
	return func(yield func([]int) bool) {
		for kinds := range lists(len(d)) {
			if d.goes(kinds) && !yield(kinds) {
				return
			}
		}
	}
}

// lists of n kinds, all of them, in order; each one is new memory.
func lists(n int) iter.Seq[[]int] {
	return func(yield func([]int) bool) {
		for number := range 1 << n {
			kinds := make([]int, n)
			for j := range n {
				kinds[j] = api.Mountain
				if number>>(n-1-j)&1 != 0 {
					kinds[j] = api.Valley
				}
			}
			if !yield(kinds) {
				return
			}
		}
	}
}

// past: does sector k go on past the place of crease j, on both sides?
func (d disc) past(k, j int) bool {
	from, to := d[k], d[(k+1)%len(d)]
	return min(from, to) < d[j] && d[j] < max(from, to)
}

// meet: do two creases have one place, and their sectors on the same side of it?
func (d disc) meet(i, j int) bool {
	return i != j && i%2 == j%2 && d[i] == d[j]
}

// sectors at crease j: the one ahead of it, and the one behind it.
func (d disc) sectors(j int) (int, int) {
	return (j + len(d) - 1) % len(d), j
}
