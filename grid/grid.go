// Package grid: triangles, lines, and what keeps them.
package grid

import "pleat/api"

// Corners of a triangle: its middle, then the corners of its side, counterclockwise.
func Corners(t api.Tri) ([3]api.Point, api.Errno) {
	return answer(mayTri(t), func() ([3]api.Point, api.Errno) {
		return corners(t), api.OK
	})
}

// Edges of a triangle: from the middle, the side, back to the middle.
func Edges(t api.Tri) ([3]api.Edge, api.Errno) {
	return answer(mayTri(t), func() ([3]api.Edge, api.Errno) {
		return edges(t), api.OK
	})
}

// Across an edge of a triangle. At the rim of the places the answer lies just past MaxPlace: the chapter refuses only what is handed in.
func Across(t api.Tri, e api.Edge) (api.Tri, api.Errno) {
	return answer(mayTri(t), func() (api.Tri, api.Errno) {
		own := edges(t)
		switch e {
		case own[0]:
			return api.Tri{X: t.X, Y: t.Y, K: turned(t.K, 3)}, api.OK
		case own[1]:
			return beyondSide(t), api.OK
		case own[2]:
			return api.Tri{X: t.X, Y: t.Y, K: turned(t.K, 1)}, api.OK
		}
		return api.Tri{}, api.ErrPlace
	})
}

// Side of a line on which a triangle lies: 1 above it, else -1.
func Side(l api.Line, t api.Tri) (int, api.Errno) {
	return answer(mayLine(l) && mayTri(t), func() (int, api.Errno) {
		// The corners' mean is an inner point; three times it is whole.
		sum := 0
		for _, p := range corners(t) {
			sum += along(l.Way, p)
		}
		if sum > 3*l.C {
			return 1, api.OK
		}
		return -1, api.OK
	})
}

// Mirror at a line.
func Mirror(l api.Line) (api.Map, api.Errno) {
	return answer(mayLine(l), func() (api.Map, api.Errno) {
		return sized(mirror(l))
	})
}

// After: first a, then b.
func After(a, b api.Map) (api.Map, api.Errno) {
	return answer(mayMap(a) && mayMap(b), func() (api.Map, api.Errno) {
		return sized(after(a, b))
	})
}

// Back: what undoes a map.
func Back(a api.Map) (api.Map, api.Errno) {
	return answer(mayMap(a), func() (api.Map, api.Errno) {
		return sized(back(a))
	})
}

// Move a triangle.
func Move(a api.Map, t api.Tri) (api.Tri, api.Errno) {
	return answer(mayMap(a) && mayTri(t), func() (api.Tri, api.Errno) {
		moved := move(a, t)
		if !mayTri(moved) {
			return api.Tri{}, api.ErrSize
		}
		return moved, api.OK
	})
}
