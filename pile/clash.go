package pile

import (
	"slices"

	"pleat/api"
)

// Rule: is something wrong, if all lies in this order?
type Rule func(above Order) bool

// Clashes at a meeting, if all lies in this order: their kinds, rising.
func (m Meeting) Clashes(above Order) []int {
	var kinds []int
	for _, rule := range []struct {
		kind  int
		wrong Rule
	}{
		{api.Twisted, m.Twisted},
		{api.Pierced, m.either(Side.Pierced)},
		{api.Tangled, m.either(Side.Tangled)},
		{api.Misfolded, m.either(Side.Misfolded)},
	} {
		if rule.wrong(above) {
			kinds = append(kinds, rule.kind)
		}
	}
	return kinds
}

// either: is something wrong on one of both sides?
func (m Meeting) either(wrong func(s Side, above Order) bool) Rule {
	return func(above Order) bool { return wrong(m[0], above) || wrong(m[1], above) }
}

// Twisted: do two that go on lie one way here, and the other way there?
func (m Meeting) Twisted(above Order) bool {
	here, there := m[0].On, m[1].On
	for i := range here {
		for j := range i {
			if above(here[i], here[j]) != above(there[i], there[j]) {
				return true
			}
		}
	}
	return false
}

// Pierced: does one that goes on lie in a fold?
func (s Side) Pierced(above Order) bool {
	return slices.ContainsFunc(s.Folds, func(f Fold) bool {
		return slices.ContainsFunc(s.On, func(i int) bool { return f.around(i, above) })
	})
}

// Tangled: does just one of a fold's two lie in another fold?
func (s Side) Tangled(above Order) bool {
	for n, a := range s.Folds {
		if slices.ContainsFunc(s.Folds[:n], func(b Fold) bool { return a.around(b.Low, above) != a.around(b.High, above) }) {
			return true
		}
	}
	return false
}

// Misfolded: is a fold not as its kind has it?
func (s Side) Misfolded(above Order) bool {
	return slices.ContainsFunc(s.Folds, func(f Fold) bool { return above(f.Low, f.High) })
}

// around: does a triangle lie between both of the fold?
func (f Fold) around(i int, above Order) bool {
	return above(i, f.Low) != above(i, f.High)
}
