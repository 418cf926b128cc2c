package paper

import (
	"pleat/api"
	"pleat/grid"
)

// Joint of a triangle: an edge, and which of Tris lies on its other side.
type Joint struct {
	E  api.Edge
	To int
}

// Joints of a triangle with those beside it that are there.
func (p Paper) Joints(i int) []Joint {
	var joints []Joint
	for _, e := range edges(p.Tris[i]) {
		for _, n := range p.at[e] {
			if n != i {
				joints = append(joints, Joint{E: e, To: n})
			}
		}
	}
	return joints
}

// Beyond an edge: the map that the triangle there must have, when all is folded flat and the near one has this map. It is the zero map, which is none, if the near one's is none or the numbers would be too great.
func (p Paper) Beyond(e api.Edge, near api.Map) api.Map {
	if p.Kind(e) == 0 {
		return near
	}
	mirror, _ := grid.Mirror(LineOf(e)) // a sheet's lines are never too far to be
	far, _ := grid.After(mirror, near)
	return far
}

// LineOf an edge.
func LineOf(e api.Edge) api.Line {
	switch {
	case e.P.X == e.Q.X:
		return api.Line{Way: api.Upright, C: e.P.X}
	case e.P.Y == e.Q.Y:
		return api.Line{Way: api.Level, C: e.P.Y}
	case e.P.Y > e.Q.Y: // from the lesser X to the greater one
		return api.Line{Way: api.Falling, C: e.P.X + e.P.Y}
	}
	return api.Line{Way: api.Rising, C: e.P.X - e.P.Y}
}
