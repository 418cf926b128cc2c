package fold_test

import (
	"slices"

	"pleat/api"
	"pleat/fold"
	"pleat/grid"
	"pleat/samples"
	"pleat/stack"
)

const m, v = api.Mountain, api.Valley

// die: numbers that look drawn, the same each time.
type die uint64

func (d *die) below(most int) int {
	*d = *d*6364136223846793005 + 1442695040888963407
	return int(uint64(*d>>33) % uint64(most))
}

// at a line of a way: all layers of a side.
func at(way, c, side int, over bool) api.Fold {
	return api.Fold{Line: api.Line{Way: way, C: c}, Side: side, Over: over}
}

// layers of a place alone.
func layers(f api.Fold, count int, place api.Tri) api.Fold {
	f.Layers, f.At = count, place
	return f
}

// table: a state, taken as the chapter's words have it, one by one.
type table struct {
	api.State
	f    api.Fold
	tris []api.Tri
}

func (b table) mapOf(t api.Tri) api.Map { return b.Maps[slices.Index(b.tris, t)] }

func (b table) stackOf(t api.Tri) api.Stack {
	return b.Stacks[slices.IndexFunc(b.Stacks, func(l api.Stack) bool { return slices.Contains(l.Tris, t) })]
}

func (b table) height(t api.Tri) int { return slices.Index(b.stackOf(t).Tris, t) }

// above: by how much a point's number is above the line's.
func above(l api.Line, p api.Point) int {
	return []int{p.X, p.Y, p.X + p.Y, p.X - p.Y}[l.Way] - l.C
}

// side of the line on which a place lies: that of its corners that are not on it.
func (b table) side(place api.Tri) int {
	corners, _ := grid.Corners(place)
	sum := 0
	for _, p := range corners {
		sum += above(b.f.Line, p)
	}
	if sum > 0 {
		return 1
	}
	return -1
}

// joined: a triangle's neighbours with which it is joined at the line, or elsewhere.
func (b table) joined(t api.Tri, atLine bool) []api.Tri {
	return slices.DeleteFunc(samples.Neighbours(b.Sheet, t), func(u api.Tri) bool {
		e := samples.OntoEdge(b.mapOf(t), shared(t, u))
		return (above(b.f.Line, e.P) == 0 && above(b.f.Line, e.Q) == 0) != atLine
	})
}

// shared: the edge between two triangles.
func shared(t, u api.Tri) api.Edge {
	edges, _ := grid.Edges(t)
	i := slices.IndexFunc(edges[:], func(e api.Edge) bool {
		across, _ := grid.Across(t, e)
		return across == u
	})
	return edges[i]
}

// first: what moves ahead of what is joined to it; false: the fold is out of range.
func (b table) first() ([]api.Tri, bool) {
	f := b.f
	if f.Line.Way < 0 || f.Line.Way > 3 || f.Line.C%2 != 0 || f.Line.C < -api.MaxPlace || f.Line.C > api.MaxPlace || f.Side*f.Side != 1 || f.Layers < 0 {
		return nil, false
	}
	if f.Layers == 0 {
		return slices.DeleteFunc(slices.Clone(b.tris), func(t api.Tri) bool { return b.side(b.stackOf(t).At) != f.Side }), true
	}
	for _, l := range b.Stacks {
		if n := len(l.Tris); l.At == f.At && n >= f.Layers && b.side(l.At) == f.Side {
			if f.Over {
				return l.Tris[n-f.Layers:], true
			}
			return l.Tris[:f.Layers], true
		}
	}
	return nil, false
}

// taken: the table of a state, and what moves.
func taken(st api.State, f api.Fold) (table, []api.Tri, api.Errno) {
	b := table{State: st, f: f}
	if !stack.May(st) {
		return b, nil, api.ErrState
	}
	if clashes, _ := stack.Clashes(st); len(clashes) > 0 {
		return b, nil, api.ErrOrder
	}
	b.tris = samples.Ordered(st.Sheet)
	first, ok := b.first()
	if !ok {
		return b, nil, api.ErrRange
	}
	label := samples.Labels(b.tris, func(t api.Tri) []api.Tri { return b.joined(t, false) })
	moves := slices.DeleteFunc(slices.Clone(b.tris), func(t api.Tri) bool {
		return !slices.ContainsFunc(first, func(u api.Tri) bool { return label[u] == label[t] })
	})
	if len(moves) == 0 || len(moves) == len(b.tris) {
		return b, nil, api.ErrNone
	}
	if slices.ContainsFunc(moves, func(t api.Tri) bool { return b.stuck(t, moves) }) {
		return b, nil, api.ErrOrder
	}
	return b, moves, api.OK
}

// stuck: is something that stays in the way of one that moves, or would a fold come open?
func (b table) stuck(t api.Tri, moves []api.Tri) bool {
	for _, u := range b.stackOf(t).Tris {
		if !slices.Contains(moves, u) && (b.height(u) > b.height(t)) == b.f.Over {
			return true
		}
	}
	return slices.ContainsFunc(b.joined(t, true), func(u api.Tri) bool {
		return !slices.Contains(moves, u) && b.stackOf(u).At == b.stackOf(t).At
	})
}

// mirrored: a point's mirror image.
func mirrored(l api.Line, p api.Point) api.Point {
	far := above(l, p)
	return []api.Point{{X: p.X - 2*far, Y: p.Y}, {X: p.X, Y: p.Y - 2*far}, {X: p.X - far, Y: p.Y - far}, {X: p.X - far, Y: p.Y + far}}[l.Way]
}

// throughMirror: the map that brings each point to the mirror image of where it came.
func throughMirror(l api.Line, had api.Map) api.Map {
	image := func(x, y int) api.Point { return mirrored(l, samples.Onto(had, api.Point{X: x, Y: y})) }
	o, x, y := image(0, 0), image(1, 0), image(0, 1)
	return api.Map{A: x.X - o.X, B: y.X - o.X, C: x.Y - o.Y, D: y.Y - o.Y, E: o.X, F: o.Y}
}

// wanted: what Do and Moves should answer.
func wanted(st api.State, f api.Fold) (api.State, api.Errno, []api.Tri, api.Errno) {
	b, moves, code := taken(st, f)
	if code != api.OK {
		return api.State{}, code, nil, code
	}
	maps, heights, kinds := slices.Clone(st.Maps), make([]int, len(b.tris)), samples.Kinds(st.Sheet)
	for i, t := range b.tris {
		heights[i] = b.height(t)
		if !slices.Contains(moves, t) {
			continue
		}
		maps[i] = throughMirror(f.Line, maps[i])
		if max(maps[i].E, -maps[i].E, maps[i].F, -maps[i].F) > api.MaxPlace {
			return api.State{}, api.ErrSize, moves, api.OK
		}
		heights[i] = -heights[i] - 1
		if f.Over {
			heights[i] += 1000
		}
		for _, u := range samples.Neighbours(st.Sheet, t) {
			if !slices.Contains(moves, u) {
				kinds[shared(t, u)] = m
				if f.Over && samples.FrontAbove(b.mapOf(u)) || !f.Over && !samples.FrontAbove(b.mapOf(u)) {
					kinds[shared(t, u)] = v
				}
			}
		}
	}
	out := samples.Stacked(samples.Kinded(st.Sheet, kinds), maps, heights)
	if clashes, _ := stack.Clashes(out); len(clashes) > 0 {
		return api.State{}, api.ErrOrder, moves, api.OK
	}
	return out, api.OK, moves, api.OK
}

// papers without creases, of several shapes.
func papers() []api.Sheet {
	return []api.Sheet{
		samples.Full(1, 1), samples.Full(2, 1), samples.Full(3, 1), samples.Full(5, 1), samples.Full(1, 4), samples.Full(2, 2), samples.Full(3, 2), samples.Full(3, 3),
		samples.Masked(3, 3, 15, 15, 15, 15, 0, 15, 15, 15, 15), // a ring
		samples.Masked(3, 3, 14, 15, 13, 15, 5+8, 15, 7, 15, 11),
		samples.Masked(4, 2, 15, 0, 15, 0, 15, 15, 15, 15), // two legs
		samples.Masked(3, 3, 0, 15, 0, 15, 15, 15, 0, 15, 0),
		samples.Masked(2, 2, 15, 15, 15, 14),
	}
}

// drawnFold: at a line that goes by some paper, most often, of all layers or of some.
func drawnFold(d *die, st api.State) api.Fold {
	place := st.Stacks[d.below(len(st.Stacks))].At
	corners, _ := grid.Corners(place)
	f := at(d.below(4), 0, 1-2*d.below(2), d.below(2) == 0)
	f.Line.C = above(f.Line, corners[d.below(3)])
	f.Line.C += f.Line.C % 2 // no line of the grid goes through a middle there
	if d.below(4) > 0 {
		f.Side = table{f: f}.side(place)
	}
	if d.below(3) > 0 {
		f = layers(f, 1+d.below(1+d.below(4)), place)
	}
	return f
}

// drawn states: papers folded a few times, all layers or some of them; some are turned, or lie elsewhere.
func drawn(d *die, count int) []api.State {
	var out []api.State
	for n := range count {
		st, _ := fold.Flat(papers()[n%len(papers())])
		if n%3 == 1 {
			st = samples.Brought(st, api.Map{A: -1, D: 1, E: 6})
		}
		if n%5 == 1 {
			st = samples.Brought(st, api.Map{B: -1, C: 1, E: 4, F: 2})
		}
		for range d.below(12) {
			if x, e := fold.Do(st, drawnFold(d, st)); e == api.OK {
				st = x
			}
		}
		out = append(out, st)
	}
	return out
}
