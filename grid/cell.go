package grid

import "pleat/api"

// steps from a cell's middle to its corners, counterclockwise from the lowest one: the side of the triangle k goes from step k to the one behind it.
var steps = quarterTurns(api.Point{X: -1, Y: -1})

// quarterTurns: a step, and what quarters of a turn make of it.
func quarterTurns(p api.Point) [4]api.Point {
	var all [4]api.Point
	for i := range all {
		all[i] = p
		p = api.Point{X: -p.Y, Y: p.X}
	}
	return all
}

// turned: which of a cell's four comes so many quarters of a turn later.
func turned(k, quarters int) int { return (k + quarters) % 4 }

func plus(p, q api.Point) api.Point { return api.Point{X: p.X + q.X, Y: p.Y + q.Y} }

func middle(t api.Tri) api.Point { return api.Point{X: 2*t.X + 1, Y: 2*t.Y + 1} }

func corners(t api.Tri) [3]api.Point {
	m := middle(t)
	return [3]api.Point{m, plus(m, steps[t.K]), plus(m, steps[turned(t.K, 1)])}
}

func edges(t api.Tri) [3]api.Edge {
	c := corners(t)
	return [3]api.Edge{edge(c[0], c[1]), edge(c[1], c[2]), edge(c[2], c[0])}
}

// edge between two points, from the lesser one on.
func edge(p, q api.Point) api.Edge {
	if q.X < p.X || q.X == p.X && q.Y < p.Y {
		p, q = q, p
	}
	return api.Edge{P: p, Q: q}
}

// outward: the step from a cell's middle to the middle of a side.
func outward(k int) api.Point {
	both := plus(steps[k], steps[turned(k, 1)])
	return api.Point{X: both.X / 2, Y: both.Y / 2}
}

// beyondSide: the triangle of the next cell that has the same side.
func beyondSide(t api.Tri) api.Tri {
	o := outward(t.K)
	return api.Tri{X: t.X + o.X, Y: t.Y + o.Y, K: turned(t.K, 2)}
}

// along: what a line of this way holds against its C.
func along(way int, p api.Point) int {
	switch way {
	case api.Upright:
		return p.X
	case api.Level:
		return p.Y
	case api.Falling:
		return p.X + p.Y
	}
	return p.X - p.Y
}
