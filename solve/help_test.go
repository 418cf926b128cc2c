package solve_test

import (
	"slices"

	"pleat/api"
	"pleat/flat"
	"pleat/samples"
	"pleat/stack"
)

const m, v = api.Mountain, api.Valley

// die: numbers that look drawn, the same each time.
type die uint64

func (d *die) below(most int) int {
	*d = *d*6364136223846793005 + 1442695040888963407
	return int(uint64(*d>>33) % uint64(most))
}

// placed: a sheet's state in which each stack lies as it may, if the sheet is one that can be asked for.
func placed(s api.Sheet) (api.State, bool) {
	maps, e := flat.Place(s)
	if e != api.OK || len(maps) > api.MaxSolve {
		return api.State{}, false
	}
	st := samples.Stacked(s, maps, make([]int, len(maps)))
	return st, !slices.ContainsFunc(st.Stacks, func(l api.Stack) bool { return len(l.Tris) > 6 })
}

// asked: sheets for which an order is sought, as they lie and with kinds that are drawn; and for each how many states there are, with clashes and without.
func asked() ([]api.Sheet, []int) {
	var sheets []api.Sheet
	var states []int
	d := die(7)
	for _, s := range slices.Concat(winding(&d), samples.Plenty()) {
		st, ok := placed(s)
		if !ok {
			continue
		}
		for range 2 {
			sheets, states = append(sheets, s), append(states, orders(st))
			s.Creases = slices.Clone(s.Creases)
			for i := range s.Creases {
				s.Creases[i].Kind = 1 + d.below(2)
			}
		}
	}
	return sheets, states
}

// orders: in how many ways the stacks can lie.
func orders(st api.State) int {
	n := 1
	for _, l := range st.Stacks {
		for i := range l.Tris {
			n *= i + 1
		}
	}
	return n
}

// winding: strips of triangles that go here and there, with creases anywhere; where no point is within the paper, none tears.
func winding(d *die) []api.Sheet {
	var out []api.Sheet
	for n := range 900 {
		s := samples.Masked(4, 4, make([]int, 16)...)
		at := api.Tri{X: 1 + d.below(2), Y: 1 + d.below(2), K: d.below(4)}
		for range 4 + n%17 {
			s.Mask[at.Y*4+at.X] |= 1 << at.K
			if near := samples.Neighbours(samples.Full(4, 4), at); len(near) > 0 {
				at = near[d.below(len(near))]
			}
		}
		kinds := map[api.Edge]int{}
		for _, e := range samples.Inner(s) {
			kinds[e] = max(0, d.below(5)-2)
		}
		out = append(out, samples.Kinded(s, kinds))
	}
	return out
}

// without clash: how many of all states of a sheet, one by one.
func without(st api.State) int {
	st = samples.CopyState(st)
	count := 0
	var lay func(n int)
	lay = func(n int) {
		if n == len(st.Stacks) {
			if l, e := stack.Clashes(st); e == api.OK && len(l) == 0 {
				count++
			}
			return
		}
		shuffle(st.Stacks[n].Tris, 0, func() { lay(n + 1) })
	}
	lay(0)
	return count
}

// shuffle a list from an index on in all ways.
func shuffle(list []api.Tri, from int, do func()) {
	if from == len(list) {
		do()
	}
	for i := from; i < len(list); i++ {
		list[from], list[i] = list[i], list[from]
		shuffle(list, from+1, do)
		list[from], list[i] = list[i], list[from]
	}
}

// strip of cells side by side, with these creases between them.
func strip(kinds ...int) api.Sheet {
	of := map[api.Edge]int{}
	for i, kind := range kinds {
		of[samples.Edge(2*i+2, 0, 2*i+2, 2)] = kind
	}
	return samples.Kinded(samples.Full(len(kinds)+1, 1), of)
}

// kindings: each sheet with creases on these edges, and kinds in all ways.
func kindings(s api.Sheet, edges []api.Edge, do func(s api.Sheet)) {
	for n := range 1 << len(edges) {
		kinds := map[api.Edge]int{}
		for i, e := range edges {
			kinds[e] = 1 + n>>i&1
		}
		do(samples.Kinded(s, kinds))
	}
}

// between cells: the inner edges at which two cells meet.
func between(s api.Sheet) []api.Edge {
	return slices.DeleteFunc(samples.Inner(s), func(e api.Edge) bool { return (e.P.X+e.Q.X)%2 != 0 })
}

// changed: each mountain a valley, each valley a mountain.
func changed(s api.Sheet) api.Sheet {
	s.Creases = slices.Clone(s.Creases)
	for i := range s.Creases {
		s.Creases[i].Kind = 3 - s.Creases[i].Kind
	}
	return s
}

// mirrored: a sheet's picture in a mirror: east is west.
func mirrored(s api.Sheet) api.Sheet {
	out := samples.Masked(s.W, s.H, make([]int, len(s.Mask))...)
	for _, t := range samples.Tris(s) {
		if t.K%2 == 1 {
			t.K = 4 - t.K
		}
		out.Mask[t.Y*s.W+s.W-1-t.X] |= 1 << t.K
	}
	kinds := map[api.Edge]int{}
	for e, kind := range samples.Kinds(s) {
		kinds[samples.OntoEdge(api.Map{A: -1, D: 1, E: 2 * s.W}, e)] = kind
	}
	return samples.Kinded(out, kinds)
}
