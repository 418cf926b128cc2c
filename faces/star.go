package faces

import (
	"cmp"
	"slices"

	"pleat/api"
	"pleat/grid"
	"pleat/paper"
)

// around a point: eighths of a turn from the east on, counterclockwise.
type around [8]eighth

// eighth of a turn, from its direction to the next one.
type eighth struct {
	paper bool // is paper there?
	kind  int  // of the crease that goes out in its direction; 0: none does
}

// pointsOf paper: what lies around each point of its triangles, creases not yet drawn.
func pointsOf(p paper.Paper) map[api.Point]around {
	points := map[api.Point]around{}
	for _, t := range p.Tris {
		corners, _ := grid.Corners(t) // a sheet's triangles are never too far to be
		for i, at := range corners {
			points[at] = points[at].filled(direction(at, corners[(i+1)%3]), direction(at, corners[(i+2)%3]))
		}
	}
	return points
}

// filled with paper from one direction on, counterclockwise to another one.
func (a around) filled(from, to int) around {
	for d := from; d != to; d = (d + 1) % 8 {
		a[d].paper = true
	}
	return a
}

// creased in a direction.
func (a around) creased(d, kind int) around {
	a[d].kind = kind
	return a
}

// within: is paper all around?
func (a around) within() bool {
	for _, part := range a {
		if !part.paper {
			return false
		}
	}
	return true
}

// star of what lies around a point.
func (a around) star(at api.Point) api.Star {
	s := api.Star{At: at}
	for d, part := range a {
		if part.kind != 0 {
			s.Dirs = append(s.Dirs, d)
			s.Kinds = append(s.Kinds, part.kind)
		}
	}
	return s
}

// direction from a point to another one on a line of the grid with it.
func direction(p, q api.Point) int {
	step := api.Point{X: cmp.Compare(q.X, p.X), Y: cmp.Compare(q.Y, p.Y)}
	return slices.Index([]api.Point{{X: 1}, {X: 1, Y: 1}, {Y: 1}, {X: -1, Y: 1}, {X: -1}, {X: -1, Y: -1}, {Y: -1}, {X: 1, Y: -1}}, step)
}

func starsOf(p paper.Paper, creases []api.Crease) []api.Star {
	points := pointsOf(p)
	for _, c := range creases {
		points[c.E.P] = points[c.E.P].creased(direction(c.E.P, c.E.Q), c.Kind)
		points[c.E.Q] = points[c.E.Q].creased(direction(c.E.Q, c.E.P), c.Kind)
	}
	var stars []api.Star
	for at, a := range points {
		if s := a.star(at); len(s.Dirs) > 0 && a.within() {
			stars = append(stars, s)
		}
	}
	slices.SortFunc(stars, func(a, b api.Star) int { return paper.ComparePoints(a.At, b.At) })
	return stars
}
