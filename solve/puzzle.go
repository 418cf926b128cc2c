package solve

import (
	"slices"

	"pleat/api"
	"pleat/pile"
)

// mostInStack: of so many triangles at one place all orders are gone through.
const mostInStack = 6

// puzzle: paper whose order is sought.
type puzzle struct {
	pile.Pile
	stacks [][]int // the numbers of the triangles at each place
	rules  []rule
}

// rule on two stacks, or on one that is told twice.
type rule struct {
	a, b  int
	wrong pile.Rule
}

// pose the puzzle of a sheet, if it is not too great.
func pose(s api.Sheet) (puzzle, api.Errno) {
	p, code := pile.Placed(s)
	if code != api.OK {
		return puzzle{}, code
	}
	z := puzzle{Pile: p, stacks: p.Piled()}
	high := func(stack []int) bool { return len(stack) > mostInStack }
	if len(p.Tris) > api.MaxSolve || slices.ContainsFunc(z.stacks, high) {
		return puzzle{}, api.ErrSize
	}
	for _, m := range p.Meetings() {
		z.forbid(m)
	}
	return z, api.OK
}

// forbid what would be wrong at an edge of the plane.
func (z *puzzle) forbid(m pile.Meeting) {
	for _, side := range m {
		if len(side.Folds) > 0 { // else there is nothing on this side alone that may be wrong
			at := z.stackOf(side.Folds[0].Low)
			z.rules = append(z.rules, rule{at, at, side.Misfolded}, rule{at, at, side.Pierced}, rule{at, at, side.Tangled})
		}
	}
	if len(m[0].On) > 1 {
		z.rules = append(z.rules, rule{z.stackOf(m[0].On[0]), z.stackOf(m[1].On[0]), m.Twisted})
	}
}

// stackOf: in which stack a triangle lies.
func (z *puzzle) stackOf(i int) int {
	return slices.IndexFunc(z.stacks, func(stack []int) bool { return slices.Contains(stack, i) })
}

// wrongOn: what may be wrong with a stack and one of others, or of itself, if it is among them.
func (z *puzzle) wrongOn(n int, others []int) []pile.Rule {
	var wrong []pile.Rule
	for _, r := range z.rules {
		if r.a == n && slices.Contains(others, r.b) || r.b == n && slices.Contains(others, r.a) {
			wrong = append(wrong, r.wrong)
		}
	}
	return wrong
}
