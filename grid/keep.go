package grid

import "pleat/api"

func mirror(l api.Line) api.Map {
	switch l.Way {
	case api.Upright:
		return api.Map{A: -1, D: 1, E: 2 * l.C}
	case api.Level:
		return api.Map{A: 1, D: -1, F: 2 * l.C}
	case api.Falling:
		return api.Map{B: -1, C: -1, E: l.C, F: l.C}
	}
	return api.Map{B: 1, C: 1, E: l.C, F: -l.C}
}

// turn: where a map brings a step, which has no place.
func turn(a api.Map, p api.Point) api.Point {
	return api.Point{X: a.A*p.X + a.B*p.Y, Y: a.C*p.X + a.D*p.Y}
}

// image: where a map brings a point.
func image(a api.Map, p api.Point) api.Point {
	return plus(turn(a, p), api.Point{X: a.E, Y: a.F})
}

func after(a, b api.Map) api.Map {
	x := turn(b, api.Point{X: a.A, Y: a.C})
	y := turn(b, api.Point{X: a.B, Y: a.D})
	o := image(b, api.Point{X: a.E, Y: a.F})
	return api.Map{A: x.X, B: y.X, C: x.Y, D: y.Y, E: o.X, F: o.Y}
}

func back(a api.Map) api.Map {
	// A turn with or without a mirror is undone by its numbers with rows and columns changed about.
	undone := api.Map{A: a.A, B: a.C, C: a.B, D: a.D}
	o := turn(undone, api.Point{X: a.E, Y: a.F})
	undone.E, undone.F = -o.X, -o.Y
	return undone
}

func move(a api.Map, t api.Tri) api.Tri {
	m := image(a, middle(t))
	// Maps keep middles, so both numbers are odd and the halves are whole.
	return api.Tri{X: (m.X - 1) / 2, Y: (m.Y - 1) / 2, K: kindToward(turn(a, outward(t.K)))}
}

// kindToward: of a cell's triangles the one at the side to which a step points.
func kindToward(step api.Point) int {
	for k := range 4 {
		if outward(k) == step {
			return k
		}
	}
	return 0 // not reached: maps keep the four steps
}
