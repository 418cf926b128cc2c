// Package pile: paper that lies folded, at work: where its triangles come to, how they lie there, and which of them meet at an edge of the plane.
package pile

import (
	"pleat/api"
	"pleat/flat"
	"pleat/grid"
	"pleat/paper"
)

// Order of triangles, told by their numbers: does a lie above b? It is asked of such as lie at one place.
type Order func(a, b int) bool

// Pile of paper.
type Pile struct {
	paper.Paper
	Maps   []api.Map // of each triangle
	Places []api.Tri // to which each triangle's map brings it
}

// Spread paper by maps, if they fit it: across each edge they must be as its crease, or none, has it.
func Spread(p paper.Paper, maps []api.Map) (Pile, bool) {
	if len(maps) != len(p.Tris) {
		return Pile{}, false
	}
	pile := Pile{Paper: p, Maps: maps}
	for i, t := range p.Tris {
		at, code := grid.Move(maps[i], t)
		if code != api.OK {
			return Pile{}, false
		}
		pile.Places = append(pile.Places, at)
	}
	return pile, pile.fits()
}

func (p Pile) fits() bool {
	for i := range p.Tris {
		for _, j := range p.Joints(i) {
			if p.Maps[j.To] != p.Beyond(j.E, p.Maps[i]) {
				return false
			}
		}
	}
	return true
}

// Placed: the paper of a sheet where it comes to when all creases are folded flat.
func Placed(s api.Sheet) (Pile, api.Errno) {
	maps, code := flat.Place(s)
	if code != api.OK {
		return Pile{}, code
	}
	laid, _ := paper.Lay(s)
	p, _ := Spread(laid, maps) // the maps of Place fit
	return p, api.OK
}

// Of a state, if it may be: its paper, and how that lies.
func Of(st api.State) (Pile, Order, bool) {
	laid, ok := paper.Lay(st.Sheet)
	if !ok {
		return Pile{}, nil, false
	}
	p, ok := Spread(laid, st.Maps)
	if !ok {
		return Pile{}, nil, false
	}
	heights, ok := p.heights(st.Stacks)
	return p, By(heights), ok
}

// By heights: what has the greater one lies above.
func By(heights []int) Order {
	return func(a, b int) bool { return heights[a] > heights[b] }
}

// Onward: the same paper, all of which went on by a map, if no number is too great then.
func (p Pile) Onward(m api.Map) (Pile, bool) {
	maps := make([]api.Map, len(p.Maps))
	for i, had := range p.Maps {
		next, code := grid.After(had, m)
		if code != api.OK {
			return Pile{}, false
		}
		maps[i] = next
	}
	return Spread(p.Paper, maps)
}

// TurnedOver: is a triangle's front side below?
func (p Pile) TurnedOver(i int) bool {
	m := p.Maps[i]
	return m.A*m.D-m.B*m.C < 0
}
