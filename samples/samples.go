// Package samples: sheets for the tests of all layers, made without the layers that are tested with them.
package samples

import (
	"cmp"
	"slices"

	"pleat/api"
	"pleat/grid"
)

// Full: a sheet of whole cells.
func Full(w, h int) api.Sheet {
	return Masked(w, h, slices.Repeat([]int{15}, w*h)...)
}

// Masked: a sheet of such cells, the lowest row first.
func Masked(w, h int, mask ...int) api.Sheet {
	return api.Sheet{W: w, H: h, Mask: mask}
}

// Edge from one point to another one; no edge of the grid, if they are chosen so.
func Edge(px, py, qx, qy int) api.Edge {
	return api.Edge{P: api.Point{X: px, Y: py}, Q: api.Point{X: qx, Y: qy}}
}

// Crease of a kind from one point to another one.
func Crease(kind, px, py, qx, qy int) api.Crease {
	return api.Crease{E: Edge(px, py, qx, qy), Kind: kind}
}

// With these creases.
func With(s api.Sheet, creases ...api.Crease) api.Sheet {
	s.Creases = creases
	return s
}

// There: is a triangle there?
func There(s api.Sheet, t api.Tri) bool {
	return 0 <= t.X && t.X < s.W && 0 <= t.Y && t.Y < s.H && s.Mask[t.Y*s.W+t.X]&(1<<t.K) != 0
}

// Tris of a sheet, in no order that matters.
func Tris(s api.Sheet) []api.Tri {
	var out []api.Tri
	for x := range s.W {
		for y := range s.H {
			for k := range 4 {
				if t := (api.Tri{X: x, Y: y, K: k}); There(s, t) {
					out = append(out, t)
				}
			}
		}
	}
	return out
}

// Ordered: a sheet's triangles by Y, then X, then K.
func Ordered(s api.Sheet) []api.Tri {
	tris := Tris(s)
	slices.SortFunc(tris, func(a, b api.Tri) int {
		return (a.Y*100+a.X)*10 + a.K - (b.Y*100+b.X)*10 - b.K
	})
	return tris
}

// Kinds of a sheet's creases, by their edges.
func Kinds(s api.Sheet) map[api.Edge]int {
	out := map[api.Edge]int{}
	for _, c := range s.Creases {
		out[c.E] = c.Kind
	}
	return out
}

// Neighbours of a triangle that are there.
func Neighbours(s api.Sheet, t api.Tri) []api.Tri {
	var out []api.Tri
	edges, _ := grid.Edges(t)
	for _, e := range edges {
		if u, _ := grid.Across(t, e); There(s, u) {
			out = append(out, u)
		}
	}
	return out
}

// Labels: of each triangle the least number, by places in the list, of all to which one comes from it. They are handed on until nothing changes: slow, but plain.
func Labels(tris []api.Tri, next func(t api.Tri) []api.Tri) map[api.Tri]int {
	label := map[api.Tri]int{}
	for i, t := range tris {
		label[t] = i
	}
	for changed := true; changed; {
		changed = false
		for _, t := range tris {
			for _, u := range next(t) {
				if label[u] < label[t] {
					label[t], changed = label[u], true
				}
			}
		}
	}
	return label
}

// Distinct numbers among labels: how many.
func Distinct(label map[api.Tri]int) int {
	seen := map[int]int{}
	for _, l := range label {
		seen[l]++
	}
	return len(seen)
}

// Inner: all edges on two triangles that are there, rising.
func Inner(s api.Sheet) []api.Edge {
	var out []api.Edge
	for _, t := range Tris(s) {
		edges, _ := grid.Edges(t)
		for _, e := range edges {
			if u, _ := grid.Across(t, e); There(s, u) {
				out = append(out, e)
			}
		}
	}
	slices.SortFunc(out, func(a, b api.Edge) int {
		return cmp.Or(cmp.Compare(a.P.X, b.P.X), cmp.Compare(a.P.Y, b.P.Y), cmp.Compare(a.Q.X, b.Q.X), cmp.Compare(a.Q.Y, b.Q.Y))
	})
	return slices.Compact(out)
}

// Creased: kinds in turn on each edge that is chosen.
func Creased(s api.Sheet, chosen func(i int) bool) api.Sheet {
	s.Creases = nil
	for i, e := range Inner(s) {
		if chosen(i) {
			s.Creases = append(s.Creases, api.Crease{E: e, Kind: 1 + i%2})
		}
	}
	return s
}

// Roomy: the same sheet in lists with spare room, and a call that tells whether all of it is still as it was.
func Roomy(s api.Sheet) (api.Sheet, func() bool) {
	mask := append(slices.Clone(s.Mask), 77, 77)
	creases := append(slices.Clone(s.Creases), Crease(7, 7, 7, 7, 7), Crease(7, 7, 7, 7, 7))
	masksWere, creasesWere := slices.Clone(mask), slices.Clone(creases)
	roomy := s
	roomy.Mask, roomy.Creases = mask[:len(s.Mask)], creases[:len(s.Creases)]
	return roomy, func() bool {
		return slices.Equal(mask, masksWere) && slices.Equal(creases, creasesWere)
	}
}
