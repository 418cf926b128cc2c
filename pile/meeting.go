package pile

import (
	"pleat/api"
	"pleat/grid"
	"pleat/paper"
)

// Meeting at an edge of the plane: what goes on there, or is folded, on each side of it. What ends there is in nothing's way.
type Meeting [2]Side

// Side of a meeting: the triangles of one place.
type Side struct {
	On    []int // what goes on, each with the one that has the same index on the other side
	Folds []Fold
}

// Fold of two triangles: the one that has to lie low, and the one that has to lie high, for the crease's kind to be so.
type Fold struct{ Low, High int }

// Meetings at all edges of the plane to which inner edges of the sheet come.
func (p Pile) Meetings() map[api.Edge]Meeting {
	meetings := map[api.Edge]Meeting{}
	for i := range p.Tris {
		for _, j := range p.Joints(i) {
			if i < j.To { // each edge once
				at := brought(j.E, p.Maps[i])
				meetings[at] = p.met(meetings[at], at, i, j)
			}
		}
	}
	return meetings
}

// met: with one more that comes to this edge.
func (p Pile) met(m Meeting, at api.Edge, i int, j paper.Joint) Meeting {
	near, kind := p.side(at, i), p.Kind(j.E)
	if kind != 0 {
		m[near].Folds = append(m[near].Folds, p.folded(kind, i, j.To))
		return m
	}
	m[near].On = append(m[near].On, i)
	m[1-near].On = append(m[1-near].On, j.To)
	return m
}

// folded: the front sides of a valley's triangles have to be to one another, and so the one that is not turned over lies low; of a mountain's it lies high. Just one of both is turned over.
func (p Pile) folded(kind, a, b int) Fold {
	if p.TurnedOver(a) == (kind == api.Valley) {
		a, b = b, a
	}
	return Fold{Low: a, High: b}
}

// side of an edge of the plane on which a triangle lies that comes to it: 1 to the left of the way from P to Q, else 0.
func (p Pile) side(e api.Edge, i int) int {
	corners, _ := grid.Corners(p.Places[i]) // it may be, as all places of a pile
	sum := 0                                // of all corners, of which those on the edge add nothing
	for _, c := range corners {
		sum += (e.Q.X-e.P.X)*(c.Y-e.P.Y) - (e.Q.Y-e.P.Y)*(c.X-e.P.X)
	}
	if sum > 0 {
		return 1
	}
	return 0
}

// Line of the plane to which an edge of a triangle comes.
func (p Pile) Line(i int, e api.Edge) api.Line { return paper.LineOf(brought(e, p.Maps[i])) }

// brought: where a map brings an edge.
func brought(e api.Edge, m api.Map) api.Edge {
	p, q := moved(e.P, m), moved(e.Q, m)
	if paper.ComparePoints(p, q) > 0 {
		p, q = q, p
	}
	return api.Edge{P: p, Q: q}
}

func moved(p api.Point, m api.Map) api.Point {
	return api.Point{X: m.A*p.X + m.B*p.Y + m.E, Y: m.C*p.X + m.D*p.Y + m.F}
}
