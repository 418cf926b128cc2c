package solve

import (
	"cmp"
	"slices"
	"sync"
	"sync/atomic"

	"pleat/pile"
)

// group of stacks that rules tie to one another: what lies in one of them says nothing of other groups.
type group struct {
	size  int // how many triangles the paper has
	steps []step
}

// step: a stack is laid, in one of the orders that go by what may be wrong with it alone; the rest is asked then.
type step struct {
	orders [][]int
	wrong  []pile.Rule // with what is laid already
}

// groups of all stacks.
func (z *puzzle) groups() []group {
	orders := make([][][]int, len(z.stacks))
	left := make([]int, len(z.stacks))
	for n := range z.stacks {
		orders[n], left[n] = z.orders(n), n
	}
	// Stacks with few orders come first: there is less to try, and they leave less to the others.
	slices.SortStableFunc(left, func(a, b int) int { return cmp.Compare(len(orders[a]), len(orders[b])) })
	var groups []group
	for len(left) > 0 {
		g, laid := group{size: len(z.Tris)}, z.grouped(left)
		for i, n := range laid {
			g.steps = append(g.steps, step{orders[n], z.wrongOn(n, laid[:i])})
		}
		groups = append(groups, g)
		left = slices.DeleteFunc(left, func(n int) bool { return slices.Contains(laid, n) })
	}
	return groups
}

// grouped: the first stack, and, again and again, the first other one that is tied to one of them.
func (z *puzzle) grouped(left []int) []int {
	laid := []int{left[0]}
	for {
		next := slices.IndexFunc(left, func(n int) bool {
			return !slices.Contains(laid, n) && len(z.wrongOn(n, laid)) > 0
		})
		if next < 0 {
			return laid
		}
		laid = append(laid, left[next])
	}
}

// orders of one stack that go by what may be wrong with it alone.
func (z *puzzle) orders(n int) [][]int {
	t := newTrial(len(z.Tris))
	wrong := z.wrongOn(n, []int{n})
	var orders [][]int
	for order := range shuffles(z.stacks[n]) {
		if t.goes(order, wrong) {
			orders = append(orders, order)
		}
	}
	return orders
}

// count how many orders of all stacks of the group go.
func (g group) count() int {
	var count atomic.Int64
	g.tryFirst(func(_ int, t trial) {
		g.lay(1, t, func() bool {
			count.Add(1)
			return true
		})
	})
	return int(count.Load())
}

// settle: heights of the group's triangles, if they have an order that goes: the first one, whoever is ready first.
func (g group) settle(heights []int) bool {
	found := make([]bool, len(g.steps[0].orders))
	trials := make([]trial, len(found))
	g.tryFirst(func(n int, t trial) {
		trials[n] = t
		g.lay(1, t, func() bool {
			found[n] = true
			return false
		})
	})
	n := slices.Index(found, true)
	if n < 0 {
		return false
	}
	for _, s := range g.steps {
		for _, i := range s.orders[0] {
			heights[i] = trials[n].heights[i]
		}
	}
	return true
}

// tryFirst: each order of the first stack is tried on its own, all at the same time.
func (g group) tryFirst(do func(n int, t trial)) {
	var trials sync.WaitGroup
	for n, order := range g.steps[0].orders {
		trials.Add(1)
		go func() {
			defer trials.Done()
			t := newTrial(g.size)
			t.lay(order)
			do(n, t)
		}()
	}
	trials.Wait()
}

// lay the stacks from step n on in all orders that go, until what was found is enough.
func (g group) lay(n int, t trial, found func() bool) bool {
	if n == len(g.steps) {
		return found()
	}
	for _, order := range g.steps[n].orders {
		if t.goes(order, g.steps[n].wrong) && !g.lay(n+1, t, found) {
			return false
		}
	}
	return true
}
