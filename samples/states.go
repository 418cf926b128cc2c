package samples

import (
	"cmp"
	"slices"

	"pleat/api"
	"pleat/grid"
)

// Stay: the map that leaves all where it is.
func Stay() api.Map { return api.Map{A: 1, D: 1} }

// Onto: where a map brings a point.
func Onto(m api.Map, p api.Point) api.Point {
	return api.Point{X: m.A*p.X + m.B*p.Y + m.E, Y: m.C*p.X + m.D*p.Y + m.F}
}

// OntoEdge: where a map brings an edge.
func OntoEdge(m api.Map, e api.Edge) api.Edge {
	p, q := Onto(m, e.P), Onto(m, e.Q)
	if q.X < p.X || q.X == p.X && q.Y < p.Y {
		p, q = q, p
	}
	return api.Edge{P: p, Q: q}
}

// Stacked: the state of a sheet with these maps, where the triangle with the greater height (in order) lies above.
func Stacked(s api.Sheet, maps []api.Map, heights []int) api.State {
	tris, at := Ordered(s), map[api.Tri][]int{}
	for i, t := range tris {
		place, _ := grid.Move(maps[i], t)
		at[place] = append(at[place], i)
	}
	st := api.State{Sheet: s, Maps: slices.Clone(maps)}
	for place, list := range at {
		slices.SortFunc(list, func(a, b int) int { return cmp.Compare(heights[a], heights[b]) })
		stack := api.Stack{At: place}
		for _, i := range list {
			stack.Tris = append(stack.Tris, tris[i])
		}
		st.Stacks = append(st.Stacks, stack)
	}
	slices.SortFunc(st.Stacks, func(a, b api.Stack) int {
		return cmp.Or(cmp.Compare(a.At.Y, b.At.Y), cmp.Compare(a.At.X, b.At.X), cmp.Compare(a.At.K, b.At.K))
	})
	return st
}

// Folded: a sheet without creases, all layers of which are folded step by step.
func Folded(s api.Sheet, folds ...api.Fold) api.State {
	tris, kinds := Ordered(s), map[api.Edge]int{}
	maps, heights := slices.Repeat([]api.Map{Stay()}, len(tris)), make([]int, len(tris))
	for _, f := range folds {
		mirror, _ := grid.Mirror(f.Line)
		before := slices.Clone(maps)
		for i, t := range tris {
			at, _ := grid.Move(maps[i], t)
			if side, _ := grid.Side(f.Line, at); side == f.Side {
				maps[i], _ = grid.After(maps[i], mirror)
			}
		}
		heights = risen(heights, f.Over, func(i int) bool { return maps[i] != before[i] })
		for _, e := range Inner(s) {
			t, u := beside(tris, e)
			if maps[t] == before[t] {
				t, u = u, t
			}
			if kinds[e] == 0 && maps[t] != maps[u] { // u stayed
				kinds[e] = api.Mountain
				if f.Over == FrontAbove(before[u]) {
					kinds[e] = api.Valley
				}
			}
		}
	}
	return Stacked(Kinded(s, kinds), maps, heights)
}

// risen: heights, when those that moved went over all others, or under them, turned round.
func risen(heights []int, over bool, moved func(i int) bool) []int {
	out := slices.Clone(heights)
	for i, h := range heights {
		switch {
		case !moved(i):
		case over:
			out[i] = 2*slices.Max(heights) + 1 - h
		default:
			out[i] = 2*slices.Min(heights) - 1 - h
		}
	}
	return out
}

// FrontAbove: does a map leave the front side above? It does, if what goes round counterclockwise does so there.
func FrontAbove(m api.Map) bool {
	o, p, q := Onto(m, api.Point{}), Onto(m, api.Point{X: 2}), Onto(m, api.Point{Y: 2})
	return (p.X-o.X)*(q.Y-o.Y)-(p.Y-o.Y)*(q.X-o.X) > 0
}

// beside: which two triangles have an inner edge.
func beside(tris []api.Tri, e api.Edge) (int, int) {
	has := func(t api.Tri) bool {
		edges, _ := grid.Edges(t)
		return slices.Contains(edges[:], e)
	}
	i := slices.IndexFunc(tris, has)
	return i, i + 1 + slices.IndexFunc(tris[i+1:], has)
}

// Brought: a state all of which is brought somewhere, and lies there in the same way: turned round, if the map turns paper over.
func Brought(st api.State, m api.Map) api.State {
	tris := Ordered(st.Sheet)
	maps, heights := slices.Clone(st.Maps), make([]int, len(tris))
	for i, had := range maps {
		maps[i], _ = grid.After(had, m)
	}
	for _, stack := range st.Stacks {
		for h, t := range stack.Tris {
			if !FrontAbove(m) {
				h = -h
			}
			heights[slices.Index(tris, t)] = h
		}
	}
	return Stacked(st.Sheet, maps, heights)
}

// CopyState: the same state in other memory.
func CopyState(st api.State) api.State {
	st.Sheet.Mask, st.Sheet.Creases = slices.Clone(st.Sheet.Mask), slices.Clone(st.Sheet.Creases)
	st.Maps, st.Stacks = slices.Clone(st.Maps), slices.Clone(st.Stacks)
	for i := range st.Stacks {
		st.Stacks[i].Tris = slices.Clone(st.Stacks[i].Tris)
	}
	return st
}

// SameState: are two states alike?
func SameState(a, b api.State) bool {
	return SameSheet(a.Sheet, b.Sheet) && slices.Equal(a.Maps, b.Maps) && slices.EqualFunc(a.Stacks, b.Stacks, func(x, y api.Stack) bool {
		return x.At == y.At && slices.Equal(x.Tris, y.Tris)
	})
}

// SameSheet: are two sheets alike?
func SameSheet(a, b api.Sheet) bool {
	return a.W == b.W && a.H == b.H && slices.Equal(a.Mask, b.Mask) && slices.Equal(a.Creases, b.Creases)
}

// RoomyState: the same state in lists with spare room, and a call that tells whether all of it is still as it was.
func RoomyState(st api.State) (api.State, func() bool) {
	spare := []api.Tri{{X: 77}, {X: 77}}
	sheet, sheetStays := Roomy(st.Sheet)
	maps := append(slices.Clone(st.Maps), api.Map{A: 77}, api.Map{A: 77})
	var stacks []api.Stack
	for _, stack := range st.Stacks {
		tris := append(slices.Clone(stack.Tris), spare...)
		stacks = append(stacks, api.Stack{At: stack.At, Tris: tris[:len(stack.Tris)]})
	}
	stacks = append(stacks, api.Stack{At: spare[0], Tris: spare}, api.Stack{At: spare[1]})
	whole := func() api.State {
		out := api.State{Maps: slices.Clone(maps)}
		for _, stack := range stacks {
			out.Stacks = append(out.Stacks, api.Stack{At: stack.At, Tris: slices.Clone(stack.Tris[:cap(stack.Tris)])})
		}
		return out
	}
	were := whole()
	roomy := api.State{Sheet: sheet, Maps: maps[:len(st.Maps)], Stacks: stacks[:len(st.Stacks)]}
	return roomy, func() bool { return sheetStays() && SameState(whole(), were) }
}

// Scribble over all lists of a state, and their spare room.
func Scribble(st api.State) {
	for _, stack := range st.Stacks[:cap(st.Stacks)] {
		fill(stack.Tris, api.Tri{X: 99})
	}
	fill(st.Sheet.Mask, 99)
	fill(st.Sheet.Creases, Crease(99, 9, 9, 9, 9))
	fill(st.Maps, api.Map{A: 99})
	fill(st.Stacks, api.Stack{At: api.Tri{X: 99}})
}

func fill[T any](list []T, with T) {
	for i := range list[:cap(list)] {
		list[:cap(list)][i] = with
	}
}
