package cut_test

import (
	"slices"

	"pleat/api"
	"pleat/fold"
	"pleat/grid"
	"pleat/samples"
	"pleat/stack"
)

// die: numbers that look drawn, the same each time.
type die uint64

func (d *die) below(most int) int {
	*d = *d*6364136223846793005 + 1442695040888963407
	return int(uint64(*d>>33) % uint64(most))
}

// along: by how much a point's number is above the line's.
func along(l api.Line, p api.Point) int {
	return []int{p.X, p.Y, p.X + p.Y, p.X - p.Y}[l.Way] - l.C
}

// table: a state, taken as the chapter's words have it, one by one.
type table struct {
	api.State
	tris []api.Tri
}

func lying(st api.State) table { return table{State: st, tris: samples.Ordered(st.Sheet)} }

func (b table) mapOf(t api.Tri) api.Map { return b.Maps[slices.Index(b.tris, t)] }

// place of a triangle: that of the stack in which it lies.
func (b table) place(t api.Tri) api.Tri {
	return b.Stacks[slices.IndexFunc(b.Stacks, func(l api.Stack) bool { return slices.Contains(l.Tris, t) })].At
}

// side of the line on which a triangle lies: that of its corners that are not on it.
func (b table) side(l api.Line, t api.Tri) int {
	corners, _ := grid.Corners(b.place(t))
	for _, p := range corners {
		if far := along(l, p); far != 0 {
			return far / max(far, -far)
		}
	}
	return 0
}

// cut: does an edge between two triangles come to lie on the line, with one of them on each side?
func (b table) cut(l api.Line, t, u api.Tri) bool {
	e := samples.OntoEdge(b.mapOf(t), shared(t, u))
	return along(l, e.P) == 0 && along(l, e.Q) == 0 && b.side(l, t) != b.side(l, u)
}

// shared: the edge between two triangles.
func shared(t, u api.Tri) api.Edge {
	own, _ := grid.Edges(t)
	other, _ := grid.Edges(u)
	return own[slices.IndexFunc(own[:], func(e api.Edge) bool { return slices.Contains(other[:], e) })]
}

// gathered: the pieces of triangles, in the order in which they are told, that come to one another so.
func gathered(tris []api.Tri, next func(t api.Tri) []api.Tri) [][]api.Tri {
	var out [][]api.Tri
	label := samples.Labels(tris, next)
	for i, t := range tris {
		if label[t] == i { // the first one of its piece
			out = append(out, slices.DeleteFunc(slices.Clone(tris), func(u api.Tri) bool { return label[u] != i }))
		}
	}
	return out
}

func mayLine(l api.Line) bool {
	return 0 <= l.Way && l.Way <= 3 && l.C%2 == 0 && -api.MaxPlace <= l.C && l.C <= api.MaxPlace
}

func mayPlace(t api.Tri) bool {
	return 0 <= t.K && t.K <= 3 && -api.MaxPlace <= min(t.X, t.Y) && max(t.X, t.Y) <= api.MaxPlace
}

// wantedPieces: what Pieces should answer.
func wantedPieces(st api.State, l api.Line) ([][]api.Tri, api.Errno) {
	switch {
	case !stack.May(st):
		return nil, api.ErrState
	case !mayLine(l):
		return nil, api.ErrRange
	}
	b := lying(st)
	return gathered(b.tris, func(t api.Tri) []api.Tri {
		return slices.DeleteFunc(samples.Neighbours(st.Sheet, t), func(u api.Tri) bool { return b.cut(l, t, u) })
	}), api.OK
}

// wantedPunch: what Punch should answer.
func wantedPunch(st api.State, at api.Tri) ([]api.Tri, [][]api.Tri, api.Errno) {
	switch {
	case !stack.May(st):
		return nil, nil, api.ErrState
	case !mayPlace(at):
		return nil, nil, api.ErrRange
	}
	b := lying(st)
	var out, left []api.Tri
	for _, t := range b.tris {
		if b.place(t) == at {
			out = append(out, t)
		} else {
			left = append(left, t)
		}
	}
	return out, gathered(left, func(t api.Tri) []api.Tri {
		return slices.DeleteFunc(samples.Neighbours(st.Sheet, t), func(u api.Tri) bool { return !slices.Contains(left, u) })
	}), api.OK
}

func same(a, b [][]api.Tri) bool { return slices.EqualFunc(a, b, slices.Equal) }

// sizes: how many triangles each piece has.
func sizes(pieces [][]api.Tri) []int {
	var out []int
	for _, piece := range pieces {
		out = append(out, len(piece))
	}
	return out
}

// at a line of a way: all layers of a side.
func at(way, c, side int, over bool) api.Fold {
	return api.Fold{Line: api.Line{Way: way, C: c}, Side: side, Over: over}
}

// drawn: sheets, some of which lack triangles, folded some times.
func drawn(d *die, count int) []api.State {
	var out []api.State
	for len(out) < count {
		s := samples.Full(1+d.below(4), 1+d.below(3))
		for range d.below(4) {
			s.Mask[d.below(len(s.Mask))] &= d.below(16)
		}
		st, code := fold.Flat(s)
		if code != api.OK {
			continue
		}
		for range d.below(5) {
			f := at(d.below(4), 2*d.below(5)-2, 1-2*d.below(2), d.below(2) == 0)
			if d.below(3) == 0 {
				f.Layers, f.At = 1+d.below(2), st.Stacks[d.below(len(st.Stacks))].At
			}
			if next, e := fold.Do(st, f); e == api.OK {
				st = next
			}
		}
		out = append(out, st)
	}
	return out
}

// scribble over pieces and their spare room.
func scribble(pieces [][]api.Tri) {
	for i := range pieces {
		scribbleTris(pieces[i])
	}
	pieces = pieces[:cap(pieces)]
	for i := range pieces {
		pieces[i] = []api.Tri{{X: 99}}
	}
}

func scribbleTris(tris []api.Tri) {
	tris = tris[:cap(tris)]
	for i := range tris {
		tris[i] = api.Tri{X: 99}
	}
}
