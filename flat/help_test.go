package flat_test

import (
	"slices"

	"pleat/api"
	"pleat/faces"
	"pleat/grid"
	"pleat/samples"
)

var (
	stay   = api.Map{A: 1, D: 1}
	center = api.Point{X: 2, Y: 2} // of a sheet of 2 and 2 cells
)

func every(int) bool { return true }

// corners of a triangle, and where its map brings them.
type corners = [3]api.Point

func cornersOf(t api.Tri) corners {
	c, _ := grid.Corners(t)
	return c
}

func brought(m api.Map, c corners) corners {
	for i, p := range c {
		c[i] = api.Point{X: m.A*p.X + m.B*p.Y + m.E, Y: m.C*p.X + m.D*p.Y + m.F}
	}
	return c
}

// beyond: where the corners of the triangle u come to, if those of t, beside it, come to there. Without a crease the corner that they do not share lies opposite to t's own; folded it lies on it.
func beyond(t, u api.Tri, there corners, creased bool) corners {
	of, out := cornersOf(t), corners{}
	own := slices.IndexFunc(of[:], func(p api.Point) bool { return !slices.Contains(list(u), p) })
	for i, p := range cornersOf(u) {
		n := slices.Index(of[:], p)
		switch {
		case n >= 0:
			out[i] = there[n]
		case creased:
			out[i] = there[own]
		case own == 0: // across a side, whose middle lies between
			out[i] = plus(there[1], there[2], there[0])
		default: // across a half of a diagonal, with the cell's middle between
			out[i] = plus(there[0], there[0], there[own])
		}
	}
	return out
}

func list(t api.Tri) []api.Point {
	c := cornersOf(t)
	return c[:]
}

// plus: two points together, less a third one.
func plus(a, b, c api.Point) api.Point {
	return api.Point{X: a.X + b.X - c.X, Y: a.Y + b.Y - c.Y}
}

// pairs of triangles at one edge, each pair in both orders.
func pairs(s api.Sheet, do func(t, u api.Tri, kind int)) {
	kinds := samples.Kinds(s)
	for _, t := range samples.Ordered(s) {
		edges, _ := grid.Edges(t)
		for _, e := range edges {
			if u, _ := grid.Across(t, e); samples.There(s, u) {
				do(t, u, kinds[e])
			}
		}
	}
}

// wantCorners: where each triangle's corners come to, from the first triangle on; nothing, if the sheet tears.
func wantCorners(s api.Sheet) map[api.Tri]corners {
	first := samples.Ordered(s)[0]
	out := map[api.Tri]corners{first: cornersOf(first)}
	torn := false
	for before := 0; before < len(out); { // until none comes to it
		before = len(out)
		pairs(s, func(t, u api.Tri, kind int) {
			there, ok := out[t]
			if !ok {
				return
			}
			want := beyond(t, u, there, kind != 0)
			if had, ok := out[u]; ok && had != want {
				torn = true
			}
			out[u] = want
		})
	}
	if torn {
		return nil
	}
	return out
}

// wantTroubles of a sheet: what is mirrored at all creases of a star, one behind the other, must be as it was.
func wantTroubles(s api.Sheet) []api.Trouble {
	stars, _ := faces.Stars(s)
	var out []api.Trouble
	for _, star := range stars {
		turned, sum := [2]int{0, 1}, 0
		for i, d := range star.Dirs {
			turned[0], turned[1] = (2*d-turned[0]+16)%8, (2*d-turned[1]+16)%8
			sum += 2*star.Kinds[i] - 3
		}
		if turned != [2]int{0, 1} {
			out = append(out, api.Trouble{At: star.At, Kind: api.Uneven})
		}
		if sum*sum != 4 {
			out = append(out, api.Trouble{At: star.At, Kind: api.Kinds})
		}
	}
	return out
}

// kinded: creases of these kinds, in order.
func kinded(s api.Sheet, kinds map[api.Edge]int) api.Sheet {
	s.Creases = nil
	for _, e := range samples.Inner(s) {
		if kinds[e] != 0 {
			s.Creases = append(s.Creases, api.Crease{E: e, Kind: kinds[e]})
		}
	}
	return s
}

// rays: a sheet of 2 and 2 cells with creases from its center to the rim: a kind for each direction, 0 for none.
func rays(kinds [8]int) api.Sheet {
	of := map[api.Edge]int{}
	for d, edges := range [8][]api.Edge{
		{samples.Edge(2, 2, 4, 2)},
		{samples.Edge(2, 2, 3, 3), samples.Edge(3, 3, 4, 4)},
		{samples.Edge(2, 2, 2, 4)},
		{samples.Edge(1, 3, 2, 2), samples.Edge(0, 4, 1, 3)},
		{samples.Edge(0, 2, 2, 2)},
		{samples.Edge(1, 1, 2, 2), samples.Edge(0, 0, 1, 1)},
		{samples.Edge(2, 0, 2, 2)},
		{samples.Edge(2, 2, 3, 1), samples.Edge(3, 1, 4, 0)},
	} {
		for _, e := range edges {
			of[e] = kinds[d]
		}
	}
	return kinded(samples.Full(2, 2), of)
}

// allRays: all of them.
func allRays(do func(kinds [8]int)) {
	for n := range 3 * 3 * 3 * 3 * 3 * 3 * 3 * 3 {
		var kinds [8]int
		for d := range kinds {
			kinds[d] = n % 3
			n /= 3
		}
		do(kinds)
	}
}

// folded: a sheet all layers of which are folded at lines, one behind the other, what lies above a line over what lies below; and the map to which each triangle came (in order), the first one's undone.
func folded(s api.Sheet, lines ...api.Line) (api.Sheet, []api.Map) {
	tris, kinds := samples.Ordered(s), map[api.Edge]int{}
	maps := slices.Repeat([]api.Map{stay}, len(tris))
	for _, l := range lines {
		mirror, _ := grid.Mirror(l)
		before := slices.Clone(maps)
		for i, t := range tris {
			at, _ := grid.Move(maps[i], t)
			if side, _ := grid.Side(l, at); side == 1 {
				maps[i], _ = grid.After(maps[i], mirror)
			}
		}
		for _, e := range samples.Inner(s) {
			t, u := beside(tris, e)
			if kinds[e] == 0 && maps[t] != maps[u] {
				kinds[e] = api.Mountain
				if before[t].A*before[t].D-before[t].B*before[t].C == 1 { // front side above
					kinds[e] = api.Valley
				}
			}
		}
	}
	back, _ := grid.Back(maps[0])
	for i, m := range maps {
		maps[i], _ = grid.After(m, back)
	}
	return kinded(s, kinds), maps
}

// beside: which two triangles have an inner edge.
func beside(tris []api.Tri, e api.Edge) (int, int) {
	has := func(t api.Tri) bool { return slices.Contains(list(t), e.P) && slices.Contains(list(t), e.Q) }
	i := slices.IndexFunc(tris, has)
	return i, i + 1 + slices.IndexFunc(tris[i+1:], has)
}

// lined: creases of one kind on all inner edges that lie on one of these lines.
func lined(s api.Sheet, kind int, lines ...api.Line) api.Sheet {
	kinds := map[api.Edge]int{}
	for _, e := range samples.Inner(s) {
		if slices.ContainsFunc(lines, func(l api.Line) bool { return on(l, e.P) && on(l, e.Q) }) {
			kinds[e] = kind
		}
	}
	return kinded(s, kinds)
}

func on(l api.Line, p api.Point) bool {
	return []int{p.X, p.Y, p.X + p.Y, p.X - p.Y}[l.Way] == l.C
}

// linePairs of which some cross at right angles, some do not, and some lie side by side.
func linePairs() [][]api.Line {
	var out [][]api.Line
	for n := range 4 * 4 * 3 * 3 {
		out = append(out, []api.Line{{Way: n % 4, C: 2 * (n / 16 % 3)}, {Way: n / 4 % 4, C: 2 + 2*(n/48)}})
	}
	return out
}

// plenty of sheets: with creases here and there, most of which tear, and with creases along lines.
func plenty() []api.Sheet {
	out := samples.Many()
	ring := samples.Masked(3, 3, 15, 15, 15, 15, 0, 15, 15, 15, 15)
	for _, lines := range linePairs() {
		out = append(out, lined(samples.Full(3, 2), api.Valley, lines...), lined(ring, api.Mountain, lines...), lined(samples.Masked(2, 2, 15, 15, 15, 14), api.Valley, lines...))
	}
	return out
}
