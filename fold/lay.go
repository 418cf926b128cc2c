package fold

import (
	"slices"

	"pleat/api"
	"pleat/grid"
	"pleat/paper"
	"pleat/pile"
	"pleat/stack"
)

// lay what is held on the other side of the line; the sheet is the one that was taken.
func (h hand) lay(s api.Sheet) (api.State, api.Errno) {
	creased := h.creased(s)
	laid, _ := paper.Lay(creased)            // it may be: the new creases are at inner edges that had none
	p, ok := pile.Spread(laid, h.mirrored()) // the maps fit the creases: their size alone can be wrong
	if !ok {
		return api.State{}, api.ErrSize
	}
	st := p.State(creased, h.ranks())
	if clashes, _ := stack.Clashes(st); len(clashes) > 0 {
		return api.State{}, api.ErrOrder
	}
	return st, api.OK
}

// seam: an edge between what moves and what stays, and which triangle stays there.
type seam struct {
	e     api.Edge
	stays int
}

func (h hand) seams() []seam {
	var seams []seam
	for i, moves := range h.moves {
		for _, j := range h.Joints(i) {
			if moves && !h.moves[j.To] {
				seams = append(seams, seam{j.E, j.To})
			}
		}
	}
	return seams
}

// unfolds: is a seam creased already? Its triangles lie at one place then, and would come apart.
func (h hand) unfolds() bool {
	return slices.ContainsFunc(h.seams(), func(m seam) bool { return h.Kind(m.e) != 0 })
}

// creased: the sheet with creases at all seams, too.
func (h hand) creased(s api.Sheet) api.Sheet {
	s = paper.Copy(s)
	for _, m := range h.seams() {
		s.Creases = append(s.Creases, api.Crease{E: m.e, Kind: h.kind(m)})
	}
	slices.SortFunc(s.Creases, func(a, b api.Crease) int { return paper.CompareEdges(a.E, b.E) })
	return s
}

// kind of the crease that a seam gets: a valley, if what moves comes to lie on the front side of what stays.
func (h hand) kind(m seam) int {
	if h.fold.Over != h.TurnedOver(m.stays) {
		return api.Valley
	}
	return api.Mountain
}

// mirrored: the maps of all triangles when what moves has gone on to the mirror at the line.
func (h hand) mirrored() []api.Map {
	maps := slices.Clone(h.Maps)
	for i, moves := range h.moves {
		if moves {
			maps[i] = reflected(maps[i], h.fold.Line)
		}
	}
	return maps
}

// reflected: a map that goes on to the mirror at a line. Far out that mirror's own numbers are too great, though those of what comes out are not: so it is mirrored at the line that goes through (0, 0), and brought from there to where it belongs.
func reflected(m api.Map, l api.Line) api.Map {
	mirror, _ := grid.Mirror(api.Line{Way: l.Way})
	m, _ = grid.After(m, mirror)
	step := [4]api.Point{
		api.Upright: {X: 2 * l.C},
		api.Level:   {Y: 2 * l.C},
		api.Falling: {X: l.C, Y: l.C},
		api.Rising:  {X: l.C, Y: -l.C},
	}[l.Way]
	m.E, m.F = m.E+step.X, m.F+step.Y
	return m
}

// ranks: how all lies then: what moved above what stayed, or below, and turned round.
func (h hand) ranks() pile.Order {
	return func(a, b int) bool {
		switch {
		case h.moves[a] != h.moves[b]:
			return h.moves[a] == h.fold.Over
		case h.moves[a]:
			return h.above(b, a)
		}
		return h.above(a, b)
	}
}
