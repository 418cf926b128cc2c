package stack_test

import (
	"cmp"
	"slices"

	"pleat/api"
	"pleat/faces"
	"pleat/flat"
	"pleat/grid"
	"pleat/samples"
)

// die: numbers that look drawn, the same each time.
type die uint64

func (d *die) below(most int) int {
	*d = *d*6364136223846793005 + 1442695040888963407
	return int(uint64(*d>>33) % uint64(most))
}

// visitor at an edge of the plane: a triangle, the one with which it goes on or is folded, and the kind of that fold.
type visitor struct {
	tri, other api.Tri
	kind       int
}

// side of an edge of the plane, as the chapter has it: what goes on there, what is folded, and what ends, from below to above.
type side struct {
	stack       []api.Tri
	on, at, end []visitor
}

func (s side) height(t api.Tri) int { return slices.Index(s.stack, t) }

func (s side) between(t api.Tri, v visitor) bool {
	a, b := s.height(v.tri), s.height(v.other)
	return min(a, b) < s.height(t) && s.height(t) < max(a, b)
}

// sideOf: who comes to an edge of the plane from the stack at a place.
func sideOf(st api.State, place api.Tri, e api.Edge) side {
	var s side
	for _, stack := range st.Stacks {
		if stack.At == place {
			s.stack = stack.Tris
		}
	}
	for _, t := range s.stack {
		own := ownEdge(st, t, e)
		other, _ := grid.Across(t, own)
		v := visitor{tri: t, other: other, kind: samples.Kinds(st.Sheet)[own]}
		switch {
		case !samples.There(st.Sheet, other):
			s.end = append(s.end, v)
		case s.height(other) >= 0:
			s.at = append(s.at, v)
		default:
			s.on = append(s.on, v)
		}
	}
	return s
}

// ownEdge: which of a triangle's edges comes to lie at an edge of the plane.
func ownEdge(st api.State, t api.Tri, e api.Edge) api.Edge {
	edges, _ := grid.Edges(t)
	i := slices.IndexFunc(edges[:], func(own api.Edge) bool { return samples.OntoEdge(mapOf(st, t), own) == e })
	return edges[i]
}

func mapOf(st api.State, t api.Tri) api.Map {
	return st.Maps[slices.Index(samples.Ordered(st.Sheet), t)]
}

// edgesOf the plane at which paper lies, and the places on both sides of each.
func edgesOf(st api.State) map[api.Edge][2]api.Tri {
	out := map[api.Edge][2]api.Tri{}
	for _, stack := range st.Stacks {
		edges, _ := grid.Edges(stack.At)
		for _, e := range edges {
			beyond, _ := grid.Across(stack.At, e)
			out[e] = [2]api.Tri{stack.At, beyond}
		}
	}
	return out
}

// wantClashes: as the chapter says it, word by word.
func wantClashes(st api.State) []api.Clash {
	var out []api.Clash
	for e, places := range edgesOf(st) {
		a, b := sideOf(st, places[0], e), sideOf(st, places[1], e)
		for kind, wrong := range map[int]bool{
			api.Twisted:   twisted(a, b),
			api.Pierced:   pierced(a) || pierced(b),
			api.Tangled:   tangled(a) || tangled(b),
			api.Misfolded: misfolded(st, a) || misfolded(st, b),
		} {
			if wrong {
				out = append(out, api.Clash{At: e, Kind: kind})
			}
		}
	}
	sortClashes(out)
	return out
}

func sortClashes(l []api.Clash) {
	slices.SortFunc(l, func(a, b api.Clash) int {
		p, q := a.At, b.At
		return cmp.Or(cmp.Compare(p.P.X, q.P.X), cmp.Compare(p.P.Y, q.P.Y), cmp.Compare(p.Q.X, q.Q.X), cmp.Compare(p.Q.Y, q.Q.Y), cmp.Compare(a.Kind, b.Kind))
	})
}

func twisted(a, b side) bool {
	for i, v := range a.on {
		for _, w := range a.on[:i] {
			if (a.height(v.tri) > a.height(w.tri)) != (b.height(v.other) > b.height(w.other)) {
				return true
			}
		}
	}
	return false
}

func pierced(s side) bool {
	for _, v := range s.at {
		for _, w := range s.on {
			if s.between(w.tri, v) {
				return true
			}
		}
	}
	return false
}

func tangled(s side) bool {
	for _, v := range s.at {
		for _, w := range s.at {
			if v.tri != w.tri && v.tri != w.other && s.between(w.tri, v) != s.between(w.other, v) {
				return true
			}
		}
	}
	return false
}

func misfolded(st api.State, s side) bool {
	for _, v := range s.at {
		lower, upper := v.tri, v.other
		if s.height(lower) > s.height(upper) {
			lower, upper = upper, lower
		}
		inner := samples.FrontAbove(mapOf(st, lower)) && !samples.FrontAbove(mapOf(st, upper))
		outer := !samples.FrontAbove(mapOf(st, lower)) && samples.FrontAbove(mapOf(st, upper))
		if v.kind == api.Valley && !inner || v.kind == api.Mountain && !outer {
			return true
		}
	}
	return false
}

// whole: sheets that do not tear, of few kinds of creases each.
func whole() []api.Sheet {
	out := slices.DeleteFunc(samples.Plenty(), func(s api.Sheet) bool {
		_, e := flat.Place(s)
		return e != api.OK
	})
	d := die(4)
	for _, s := range slices.Clone(out) { // as they lie, and with kinds that are drawn
		s.Creases = slices.Clone(s.Creases)
		for i := range s.Creases {
			s.Creases[i].Kind = 1 + d.below(2)
		}
		out = append(out, s)
	}
	return out
}

// drawn heights, no two alike, of a sheet's faces.
func drawn(d *die, s api.Sheet) []int {
	parted, _ := faces.Faces(s)
	heights := make([]int, len(parted))
	for i := range heights {
		j := d.below(i + 1)
		heights[i] = heights[j]
		heights[j] = i
	}
	return heights
}

// shuffled: each stack in an order of its own, whatever the faces are.
func shuffled(d *die, st api.State) api.State {
	out := samples.CopyState(st)
	for _, stack := range out.Stacks {
		for i := range stack.Tris {
			j := d.below(i + 1)
			stack.Tris[i], stack.Tris[j] = stack.Tris[j], stack.Tris[i]
		}
	}
	return out
}

// swapped: two neighbours of one stack exchanged, if there are two.
func swapped(d *die, st api.State) api.State {
	out := samples.CopyState(st)
	stack := out.Stacks[d.below(len(out.Stacks))]
	if n := len(stack.Tris); n > 1 {
		i := d.below(n - 1)
		stack.Tris[i], stack.Tris[i+1] = stack.Tris[i+1], stack.Tris[i]
	}
	return out
}
