package sheet

import (
	"pleat/api"
	"pleat/paper"
)

// between: the edges between two points of the grid along a line of the grid; none, if they are one, or on no line.
func between(p, q api.Point) []api.Edge {
	if paper.ComparePoints(p, q) > 0 {
		p, q = q, p
	}
	step := stepTo(p, q)
	if step == (api.Point{}) {
		return nil
	}
	var edges []api.Edge
	for p != q {
		next := api.Point{X: p.X + step.X, Y: p.Y + step.Y}
		edges = append(edges, api.Edge{P: p, Q: next})
		p = next
	}
	return edges
}

// stepTo: one edge's step from a point to a greater one; nothing, if no line of the grid goes there.
func stepTo(p, q api.Point) api.Point {
	dx, dy := q.X-p.X, q.Y-p.Y
	even := p.X%2 == 0 // upright and level lines go through corners alone
	switch {
	case dx == 0 && dy > 0 && even:
		return api.Point{Y: 2}
	case dy == 0 && dx > 0 && even:
		return api.Point{X: 2}
	case dx > 0 && dx == dy:
		return api.Point{X: 1, Y: 1}
	case dx > 0 && dx == -dy:
		return api.Point{X: 1, Y: -1}
	}
	return api.Point{}
}
