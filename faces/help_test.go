package faces_test

import (
	"slices"

	"pleat/api"
	"pleat/grid"
	"pleat/samples"
)

// wantFaces: triangles in order, each put behind what has its label.
func wantFaces(s api.Sheet) [][]api.Tri {
	tris, creased := samples.Ordered(s), samples.Kinds(s)
	label := samples.Labels(tris, func(t api.Tri) []api.Tri {
		edges, _ := grid.Edges(t)
		var next []api.Tri
		for _, e := range edges {
			if u, _ := grid.Across(t, e); creased[e] == 0 && samples.There(s, u) {
				next = append(next, u)
			}
		}
		return next
	})
	var out [][]api.Tri
	for i := range tris {
		var face []api.Tri
		for _, t := range tris {
			if label[t] == i {
				face = append(face, t)
			}
		}
		if len(face) > 0 {
			out = append(out, face)
		}
	}
	return out
}

// wantStars: all points of a sheet in order; what must be there around each is written out.
func wantStars(s api.Sheet) []api.Star {
	creased := samples.Kinds(s)
	var out []api.Star
	for x := range 2*s.W + 1 {
		for y := range 2*s.H + 1 {
			p := api.Point{X: x, Y: y}
			if star := starAt(creased, p); len(star.Dirs) > 0 && whole(s, p) {
				out = append(out, star)
			}
		}
	}
	return out
}

// whole: are all triangles there that have the point as a corner?
func whole(s api.Sheet, p api.Point) bool {
	x, y := p.X/2, p.Y/2
	around := []api.Tri{
		{X: x, Y: y, K: 0}, {X: x, Y: y, K: 3}, // north-east of a corner of cells
		{X: x - 1, Y: y, K: 0}, {X: x - 1, Y: y, K: 1}, // north-west
		{X: x - 1, Y: y - 1, K: 1}, {X: x - 1, Y: y - 1, K: 2}, // south-west
		{X: x, Y: y - 1, K: 2}, {X: x, Y: y - 1, K: 3}, // south-east
	}
	if p.X%2 == 1 {
		around = []api.Tri{{X: x, Y: y, K: 0}, {X: x, Y: y, K: 1}, {X: x, Y: y, K: 2}, {X: x, Y: y, K: 3}}
	}
	return !slices.ContainsFunc(around, func(t api.Tri) bool { return !samples.There(s, t) })
}

func starAt(creased map[api.Edge]int, p api.Point) api.Star {
	star := api.Star{At: p}
	for d, step := range [8][2]int{{2, 0}, {1, 1}, {0, 2}, {-1, 1}, {-2, 0}, {-1, -1}, {0, -2}, {1, -1}} {
		q := api.Point{X: p.X + step[0], Y: p.Y + step[1]}
		if kind := creased[api.Edge{P: p, Q: q}] + creased[api.Edge{P: q, Q: p}]; kind != 0 {
			star.Dirs, star.Kinds = append(star.Dirs, d), append(star.Kinds, kind)
		}
	}
	return star
}

// wantHoles: what is not there falls into as many parts, one of which is all around.
func wantHoles(s api.Sheet) int {
	lacks := func(t api.Tri) bool {
		return t.X >= -1 && t.X <= s.W && t.Y >= -1 && t.Y <= s.H && !samples.There(s, t)
	}
	var tris []api.Tri
	for n := range (s.W + 2) * (s.H + 2) * 4 {
		if t := (api.Tri{X: n/4%(s.W+2) - 1, Y: n/4/(s.W+2) - 1, K: n % 4}); lacks(t) {
			tris = append(tris, t)
		}
	}
	return samples.Distinct(samples.Labels(tris, func(t api.Tri) []api.Tri {
		edges, _ := grid.Edges(t)
		var next []api.Tri
		for _, e := range edges {
			if u, _ := grid.Across(t, e); lacks(u) {
				next = append(next, u)
			}
		}
		return next
	})) - 1
}

func sameFaces(a, b [][]api.Tri) bool {
	return slices.EqualFunc(a, b, func(x, y []api.Tri) bool { return slices.Equal(x, y) })
}

func sameStars(a, b []api.Star) bool {
	return slices.EqualFunc(a, b, func(x, y api.Star) bool {
		return x.At == y.At && slices.Equal(x.Dirs, y.Dirs) && slices.Equal(x.Kinds, y.Kinds)
	})
}
