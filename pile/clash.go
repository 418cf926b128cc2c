package pile

import (
	"slices"

	"pleat/api"
)

// Clashes at a meeting, if all lies in this order: their kinds, rising.
func (m Meeting) Clashes(above Order) []int {
	var kinds []int
	for _, rule := range []struct {
		kind  int
		wrong func(Order) bool
	}{{api.Twisted, m.twisted}, {api.Pierced, m.pierced}, {api.Tangled, m.tangled}, {api.Misfolded, m.misfolded}} {
		if rule.wrong(above) {
			kinds = append(kinds, rule.kind)
		}
	}
	return kinds
}

func (m Meeting) twisted(above Order) bool {
	return somePair(m.Passes, func(a, b Pass) bool { return above(a[0], b[0]) != above(a[1], b[1]) })
}

func (m Meeting) pierced(above Order) bool {
	for side, folds := range m.Folds {
		for _, f := range folds {
			if slices.ContainsFunc(m.Passes, func(p Pass) bool { return f.around(p[side], above) }) {
				return true
			}
		}
	}
	return false
}

func (m Meeting) tangled(above Order) bool {
	crossed := func(a, b Fold) bool { return a.around(b.Low, above) != a.around(b.High, above) }
	return somePair(m.Folds[0], crossed) || somePair(m.Folds[1], crossed)
}

func (m Meeting) misfolded(above Order) bool {
	wrong := func(f Fold) bool { return above(f.Low, f.High) }
	return slices.ContainsFunc(m.Folds[0], wrong) || slices.ContainsFunc(m.Folds[1], wrong)
}

// around: does a triangle lie between both of the fold?
func (f Fold) around(i int, above Order) bool {
	return above(i, f.Low) != above(i, f.High)
}

// somePair: is it so for two of the list?
func somePair[T any](list []T, so func(a, b T) bool) bool {
	for i, a := range list {
		for _, b := range list[i+1:] {
			if so(a, b) {
				return true
			}
		}
	}
	return false
}
