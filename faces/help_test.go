package faces_test

import (
	"slices"

	"pleat/api"
	"pleat/grid"
	"pleat/samples"
)

// sheets that may be: the samples, and a run of sheets with cells that lack triangles, some edges of them creased.
func sheets() []api.Sheet {
	var out []api.Sheet
	for _, s := range samples.Good() {
		out = append(out, s)
	}
	for n := range 400 {
		s := samples.Full(1+n%4, 1+n/4%3)
		s.Mask[n%len(s.Mask)] &= n * 7
		s.Mask[n*n%len(s.Mask)] &= n
		out = append(out, samples.Creased(s, func(i int) bool { return (i*i+n*i+n)%(2+n%3) == 0 }))
	}
	return slices.DeleteFunc(out, func(s api.Sheet) bool { return parts(s) != 1 })
}

// parts of a sheet, whatever its creases.
func parts(s api.Sheet) int {
	return distinct(samples.Labels(samples.Tris(s), func(t api.Tri) []api.Tri { return samples.Neighbours(s, t) }))
}

// distinct numbers among the labels.
func distinct(label map[api.Tri]int) int {
	seen := map[int]int{}
	for _, l := range label {
		seen[l]++
	}
	return len(seen)
}

// ordered: a sheet's triangles by Y, then X, then K.
func ordered(s api.Sheet) []api.Tri {
	tris := samples.Tris(s)
	slices.SortFunc(tris, func(a, b api.Tri) int {
		return (a.Y*100+a.X)*10 + a.K - (b.Y*100+b.X)*10 - b.K
	})
	return tris
}

// kinds of a sheet's creases, by their edges.
func kinds(s api.Sheet) map[api.Edge]int {
	out := map[api.Edge]int{}
	for _, c := range s.Creases {
		out[c.E] = c.Kind
	}
	return out
}

// wantFaces: triangles in order, each put behind what has its label.
func wantFaces(s api.Sheet) [][]api.Tri {
	tris, creased := ordered(s), kinds(s)
	label := samples.Labels(tris, func(t api.Tri) []api.Tri {
		edges, _ := grid.Edges(t)
		var next []api.Tri
		for _, e := range edges {
			if u, _ := grid.Across(t, e); creased[e] == 0 && samples.There(s, u) {
				next = append(next, u)
			}
		}
		return next
	})
	var out [][]api.Tri
	for i := range tris {
		var face []api.Tri
		for _, t := range tris {
			if label[t] == i {
				face = append(face, t)
			}
		}
		if len(face) > 0 {
			out = append(out, face)
		}
	}
	return out
}

// wantStars: all points of a sheet in order; what must be there around each is written out.
func wantStars(s api.Sheet) []api.Star {
	creased := kinds(s)
	var out []api.Star
	for x := range 2*s.W + 1 {
		for y := range 2*s.H + 1 {
			p := api.Point{X: x, Y: y}
			if star := starAt(creased, p); len(star.Dirs) > 0 && whole(s, p) {
				out = append(out, star)
			}
		}
	}
	return out
}

// whole: are all triangles there that have the point as a corner?
func whole(s api.Sheet, p api.Point) bool {
	x, y := p.X/2, p.Y/2
	around := []api.Tri{
		{X: x, Y: y, K: 0}, {X: x, Y: y, K: 3}, // north-east of a corner of cells
		{X: x - 1, Y: y, K: 0}, {X: x - 1, Y: y, K: 1}, // north-west
		{X: x - 1, Y: y - 1, K: 1}, {X: x - 1, Y: y - 1, K: 2}, // south-west
		{X: x, Y: y - 1, K: 2}, {X: x, Y: y - 1, K: 3}, // south-east
	}
	if p.X%2 == 1 {
		around = []api.Tri{{X: x, Y: y, K: 0}, {X: x, Y: y, K: 1}, {X: x, Y: y, K: 2}, {X: x, Y: y, K: 3}}
	}
	return !slices.ContainsFunc(around, func(t api.Tri) bool { return !samples.There(s, t) })
}

func starAt(creased map[api.Edge]int, p api.Point) api.Star {
	star := api.Star{At: p}
	for d, step := range [8][2]int{{2, 0}, {1, 1}, {0, 2}, {-1, 1}, {-2, 0}, {-1, -1}, {0, -2}, {1, -1}} {
		q := api.Point{X: p.X + step[0], Y: p.Y + step[1]}
		if kind := creased[api.Edge{P: p, Q: q}] + creased[api.Edge{P: q, Q: p}]; kind != 0 {
			star.Dirs, star.Kinds = append(star.Dirs, d), append(star.Kinds, kind)
		}
	}
	return star
}

// wantHoles: what is not there falls into as many parts, one of which is all around.
func wantHoles(s api.Sheet) int {
	lacks := func(t api.Tri) bool {
		return t.X >= -1 && t.X <= s.W && t.Y >= -1 && t.Y <= s.H && !samples.There(s, t)
	}
	var tris []api.Tri
	for n := range (s.W + 2) * (s.H + 2) * 4 {
		if t := (api.Tri{X: n/4%(s.W+2) - 1, Y: n/4/(s.W+2) - 1, K: n % 4}); lacks(t) {
			tris = append(tris, t)
		}
	}
	return distinct(samples.Labels(tris, func(t api.Tri) []api.Tri {
		edges, _ := grid.Edges(t)
		var next []api.Tri
		for _, e := range edges {
			if u, _ := grid.Across(t, e); lacks(u) {
				next = append(next, u)
			}
		}
		return next
	})) - 1
}

func sameFaces(a, b [][]api.Tri) bool {
	return slices.EqualFunc(a, b, func(x, y []api.Tri) bool { return slices.Equal(x, y) })
}

func sameStars(a, b []api.Star) bool {
	return slices.EqualFunc(a, b, func(x, y api.Star) bool {
		return x.At == y.At && slices.Equal(x.Dirs, y.Dirs) && slices.Equal(x.Kinds, y.Kinds)
	})
}
