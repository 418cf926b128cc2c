package vertex_test

import (
	"iter"
	"slices"

	"pleat/api"
)

const m, v = api.Mountain, api.Valley

// allLists of n numbers from 1 to most, in order.
func allLists(n, most int) iter.Seq[[]int] {
	return func(yield func([]int) bool) {
		l := slices.Repeat([]int{1}, n)
		for {
			if !yield(slices.Clone(l)) {
				return
			}
			i := n - 1
			for ; i >= 0 && l[i] == most; i-- {
				l[i] = 1
			}
			if i < 0 {
				return
			}
			l[i]++
		}
	}
}

// even: are every other angle as much together as the others?
func even(angles []int) bool {
	sums := [2]int{}
	for j, a := range angles {
		sums[j%2] += a
	}
	return sums[0] == sums[1]
}

// closed: lists of n angles from 1 to most that are even.
func closed(n, most int) iter.Seq[[]int] {
	return func(yield func([]int) bool) {
		for angles := range allLists(n, most) {
			if even(angles) && !yield(angles) {
				return
			}
		}
	}
}

// byOrders: the lists of kinds that good orders have, in order: each order of the sectors is looked at, by the words of P5.1.
func byOrders(angles []int) [][]int {
	n := len(angles)
	x := make([]int, n+1)
	for j := range n {
		x[j+1] = x[j] + angles[j]*(1-j%2*2)
	}
	var out [][]int
	orders(n, func(height []int) {
		if goodOrder(x, height) {
			out = append(out, kindsOf(height))
		}
	})
	slices.SortFunc(out, slices.Compare)
	return slices.CompactFunc(out, slices.Equal)
}

// orders: all ways in which n sectors may lie, the height of each one.
func orders(n int, do func([]int)) {
	height := make([]int, n)
	var next func(int)
	next = func(k int) {
		if k == n {
			do(height)
			return
		}
		for h := 1; h <= n; h++ {
			if !slices.Contains(height[:k], h) {
				height[k] = h
				next(k + 1)
			}
		}
	}
	next(0)
}

func goodOrder(x, height []int) bool {
	n := len(height)
	among := func(h, a, b int) bool { return (h-a)*(h-b) < 0 }
	for j := range n {
		a, b := height[(j+n-1)%n], height[j]
		for k := range n {
			if (x[k]-x[j])*(x[k+1]-x[j]) < 0 && among(height[k], a, b) {
				return false
			}
		}
		for k := range n {
			sameSide := (x[k+1] > x[k]) == (x[j+1] > x[j])
			if k == j || x[k] != x[j] || !sameSide {
				continue
			}
			if among(height[(k+n-1)%n], a, b) != among(height[k], a, b) {
				return false
			}
		}
	}
	return true
}

func kindsOf(height []int) []int {
	n := len(height)
	kinds := make([]int, n)
	for j := range n {
		ahead := (j + n - 1) % n
		above := height[j] > height[ahead]
		kinds[j] = m
		if above && ahead%2 == 0 || !above && ahead%2 == 1 {
			kinds[j] = v
		}
	}
	return kinds
}

// byCrimps: may these kinds be folded? No order is looked at: angles alike between greater ones are folded away, until all are alike.
func byCrimps(angles, kinds []int) bool {
	n, least := len(angles), slices.Min(angles)
	if least == slices.Max(angles) {
		sum := surplus(kinds)
		return sum == 2 || sum == -2
	}
	first := 0
	for angles[first] != least || angles[(first+n-1)%n] == least {
		first++
	}
	a, k := turned(angles, first), turned(kinds, first)
	run := 0
	for a[run] == least {
		run++
	}
	sum := surplus(k[:run+1])
	if run%2 == 1 { // all creases of the run go, and three angles become one
		merged := append([]int{a[n-1] - least + a[run]}, a[run+1:n-1]...)
		return sum == 0 && byCrimps(merged, append([]int{k[n-1]}, k[run+1:n-1]...))
	}
	left := m // one crease of the run stays, of the kind of which there is one more
	if sum < 0 {
		left = v
	}
	return (sum == 1 || sum == -1) && byCrimps(a[run:], append([]int{left}, k[run+1:]...))
}

// turned: the list from the first one on, then what was ahead of it.
func turned(l []int, first int) []int {
	return append(slices.Clone(l[first:]), l[:first]...)
}

// surplus: mountains more than valleys.
func surplus(kinds []int) int {
	sum := 0
	for _, k := range kinds {
		sum += 3 - 2*k
	}
	return sum
}

// changed: all kinds changed.
func changed(kinds []int) []int {
	out := slices.Clone(kinds)
	for i, k := range out {
		out[i] = m + v - k
	}
	return out
}

// drawn: lists of n angles from 1 to most, even, that look drawn, the same ones each time.
func drawn(n, most, many int) iter.Seq[[]int] {
	return func(yield func([]int) bool) {
		state := uint64(7)
		draw := func() int {
			state = state*6364136223846793005 + 1442695040888963407
			return 1 + int(state>>33)%most
		}
		for many > 0 {
			angles, sum := make([]int, n), 0
			for j := range n - 1 {
				angles[j] = draw()
				sum += angles[j] * (1 - j%2*2)
			}
			if angles[n-1] = sum; sum < 1 || sum > most {
				continue
			}
			if many--; !yield(angles) {
				return
			}
		}
	}
}
