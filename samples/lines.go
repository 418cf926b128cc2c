package samples

import (
	"slices"

	"pleat/api"
)

// Kinded: creases of these kinds, in order; 0 for none.
func Kinded(s api.Sheet, kinds map[api.Edge]int) api.Sheet {
	s.Creases = nil
	for _, e := range Inner(s) {
		if kinds[e] != 0 {
			s.Creases = append(s.Creases, api.Crease{E: e, Kind: kinds[e]})
		}
	}
	return s
}

// Rays: a sheet of 2 and 2 cells with creases from its center to the rim: a kind for each direction, 0 for none.
func Rays(kinds [8]int) api.Sheet {
	of := map[api.Edge]int{}
	for d, edges := range [8][]api.Edge{
		{Edge(2, 2, 4, 2)},
		{Edge(2, 2, 3, 3), Edge(3, 3, 4, 4)},
		{Edge(2, 2, 2, 4)},
		{Edge(1, 3, 2, 2), Edge(0, 4, 1, 3)},
		{Edge(0, 2, 2, 2)},
		{Edge(1, 1, 2, 2), Edge(0, 0, 1, 1)},
		{Edge(2, 0, 2, 2)},
		{Edge(2, 2, 3, 1), Edge(3, 1, 4, 0)},
	} {
		for _, e := range edges {
			of[e] = kinds[d]
		}
	}
	return Kinded(Full(2, 2), of)
}

// AllRays: all of them.
func AllRays(do func(kinds [8]int)) {
	for n := range 3 * 3 * 3 * 3 * 3 * 3 * 3 * 3 {
		var kinds [8]int
		for d := range kinds {
			kinds[d] = n % 3
			n /= 3
		}
		do(kinds)
	}
}

// Lined: creases of one kind on all inner edges that lie on one of these lines.
func Lined(s api.Sheet, kind int, lines ...api.Line) api.Sheet {
	kinds := map[api.Edge]int{}
	for _, e := range Inner(s) {
		if slices.ContainsFunc(lines, func(l api.Line) bool { return on(l, e.P) && on(l, e.Q) }) {
			kinds[e] = kind
		}
	}
	return Kinded(s, kinds)
}

func on(l api.Line, p api.Point) bool {
	return []int{p.X, p.Y, p.X + p.Y, p.X - p.Y}[l.Way] == l.C
}

// linePairs of which some cross at right angles, some do not, and some lie side by side.
func linePairs() [][]api.Line {
	var out [][]api.Line
	for n := range 4 * 4 * 3 * 3 {
		out = append(out, []api.Line{{Way: n % 4, C: 2 * (n / 16 % 3)}, {Way: n / 4 % 4, C: 2 + 2*(n/48)}})
	}
	return out
}

// Plenty of sheets: with creases here and there, most of which tear, and with creases along lines.
func Plenty() []api.Sheet {
	out := Many()
	ring := Masked(3, 3, 15, 15, 15, 15, 0, 15, 15, 15, 15)
	for _, lines := range linePairs() {
		out = append(out, Lined(Full(3, 2), api.Valley, lines...), Lined(ring, api.Mountain, lines...), Lined(Masked(2, 2, 15, 15, 15, 14), api.Valley, lines...))
	}
	return out
}
