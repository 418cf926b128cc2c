package fold

import (
	"slices"

	"pleat/api"
	"pleat/grid"
	"pleat/paper"
	"pleat/pile"
	"pleat/stack"
)

// hand that holds paper to fold it.
type hand struct {
	pile.Pile
	above pile.Order
	fold  api.Fold
	moves []bool // of each triangle
}

// take hold of paper, if the fold can be begun.
func take(st api.State, f api.Fold) (hand, api.Errno) {
	clashes, code := stack.Clashes(st)
	if code != api.OK {
		return hand{}, code
	}
	if len(clashes) > 0 {
		return hand{}, api.ErrOrder
	}
	p, above, _ := pile.Of(st) // it may be: its clashes were told
	h := hand{Pile: p, above: above, fold: f}
	if !h.mayFold() {
		return hand{}, api.ErrRange
	}
	held, ok := h.held()
	if !ok {
		return hand{}, api.ErrRange
	}
	h.moves = h.along(held)
	if !slices.Contains(h.moves, true) || !slices.Contains(h.moves, false) {
		return hand{}, api.ErrNone
	}
	if h.covered() || h.unfolds() {
		return hand{}, api.ErrOrder
	}
	return h, api.OK
}

// mayFold: are the line, the side and the layers such as may be?
func (h hand) mayFold() bool {
	f := h.fold
	_, code := grid.Side(f.Line, h.Places[0]) // the place may be, so the line alone can be wrong
	return code == api.OK && (f.Side == 1 || f.Side == -1) && f.Layers >= 0
}

// held: which triangles are taken first, if there are as many as are asked for.
func (h hand) held() ([]int, bool) {
	if h.fold.Layers == 0 {
		return h.where(h.onSide), true
	}
	layers := h.where(func(i int) bool { return h.onSide(i) && h.Places[i] == h.fold.At })
	if len(layers) < h.fold.Layers {
		return nil, false
	}
	slices.SortFunc(layers, h.above.Compare)
	if h.fold.Over {
		slices.Reverse(layers)
	}
	return layers[:h.fold.Layers], true
}

// where: the numbers of the triangles that are such.
func (h hand) where(such func(i int) bool) []int {
	var numbers []int
	for i := range h.Tris {
		if such(i) {
			numbers = append(numbers, i)
		}
	}
	return numbers
}

// onSide: does a triangle lie on the side of the line that is folded?
func (h hand) onSide(i int) bool {
	side, _ := grid.Side(h.fold.Line, h.Places[i])
	return side == h.fold.Side
}

// along: which triangles come along with those that are held: what is joined to them otherwise than at the line. So all of it lies on their side.
func (h hand) along(held []int) []bool {
	part := h.Parts(func(i int, j paper.Joint) bool { return h.Line(i, j.E) != h.fold.Line })
	comes := make([]bool, len(part)) // of each part; there are no more of them than triangles
	for _, i := range held {
		comes[part[i]] = true
	}
	moves := make([]bool, len(part))
	for i, n := range part {
		moves[i] = comes[n]
	}
	return moves
}

// covered: does something that stays lie in the way of what moves?
func (h hand) covered() bool {
	for _, layers := range h.Piled() {
		for _, a := range layers {
			if h.moves[a] && slices.ContainsFunc(layers, func(b int) bool { return !h.moves[b] && h.above(b, a) == h.fold.Over }) {
				return true
			}
		}
	}
	return false
}
