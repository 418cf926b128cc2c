package flat_test

import (
	"slices"

	"pleat/api"
	"pleat/faces"
	"pleat/grid"
	"pleat/samples"
)

var (
	stay   = api.Map{A: 1, D: 1}
	center = api.Point{X: 2, Y: 2} // of a sheet of 2 and 2 cells
)

func every(int) bool { return true }

// corners of a triangle, and where its map brings them.
type corners = [3]api.Point

func cornersOf(t api.Tri) corners {
	c, _ := grid.Corners(t)
	return c
}

func brought(m api.Map, c corners) corners {
	for i, p := range c {
		c[i] = api.Point{X: m.A*p.X + m.B*p.Y + m.E, Y: m.C*p.X + m.D*p.Y + m.F}
	}
	return c
}

// beyond: where the corners of the triangle u come to, if those of t, beside it, come to there. Without a crease the corner that they do not share lies opposite to t's own; folded it lies on it.
func beyond(t, u api.Tri, there corners, creased bool) corners {
	of, out := cornersOf(t), corners{}
	own := slices.IndexFunc(of[:], func(p api.Point) bool { return !slices.Contains(list(u), p) })
	for i, p := range cornersOf(u) {
		n := slices.Index(of[:], p)
		switch {
		case n >= 0:
			out[i] = there[n]
		case creased:
			out[i] = there[own]
		case own == 0: // across a side, whose middle lies between
			out[i] = plus(there[1], there[2], there[0])
		default: // across a half of a diagonal, with the cell's middle between
			out[i] = plus(there[0], there[0], there[own])
		}
	}
	return out
}

func list(t api.Tri) []api.Point {
	c := cornersOf(t)
	return c[:]
}

// plus: two points together, less a third one.
func plus(a, b, c api.Point) api.Point {
	return api.Point{X: a.X + b.X - c.X, Y: a.Y + b.Y - c.Y}
}

// pairs of triangles at one edge, each pair in both orders.
func pairs(s api.Sheet, do func(t, u api.Tri, kind int)) {
	kinds := samples.Kinds(s)
	for _, t := range samples.Ordered(s) {
		edges, _ := grid.Edges(t)
		for _, e := range edges {
			if u, _ := grid.Across(t, e); samples.There(s, u) {
				do(t, u, kinds[e])
			}
		}
	}
}

// wantCorners: where each triangle's corners come to, from the first triangle on; nothing, if the sheet tears.
func wantCorners(s api.Sheet) map[api.Tri]corners {
	first := samples.Ordered(s)[0]
	out := map[api.Tri]corners{first: cornersOf(first)}
	torn := false
	for before := 0; before < len(out); { // until none comes to it
		before = len(out)
		pairs(s, func(t, u api.Tri, kind int) {
			there, ok := out[t]
			if !ok {
				return
			}
			want := beyond(t, u, there, kind != 0)
			if had, ok := out[u]; ok && had != want {
				torn = true
			}
			out[u] = want
		})
	}
	if torn {
		return nil
	}
	return out
}

// wantTroubles of a sheet: what is mirrored at all creases of a star, one behind the other, must be as it was.
func wantTroubles(s api.Sheet) []api.Trouble {
	stars, _ := faces.Stars(s)
	var out []api.Trouble
	for _, star := range stars {
		turned, sum := [2]int{0, 1}, 0
		for i, d := range star.Dirs {
			turned[0], turned[1] = (2*d-turned[0]+16)%8, (2*d-turned[1]+16)%8
			sum += 2*star.Kinds[i] - 3
		}
		if turned != [2]int{0, 1} {
			out = append(out, api.Trouble{At: star.At, Kind: api.Uneven})
		}
		if sum*sum != 4 {
			out = append(out, api.Trouble{At: star.At, Kind: api.Kinds})
		}
	}
	return out
}

// folded: a sheet all layers of which are folded at lines, one behind the other, what lies above a line over what lies below; and the map to which each triangle came (in order), the first one's undone.
func folded(s api.Sheet, lines ...api.Line) (api.Sheet, []api.Map) {
	var folds []api.Fold
	for _, l := range lines {
		folds = append(folds, api.Fold{Line: l, Side: 1, Over: true})
	}
	st := samples.Folded(s, folds...)
	back, _ := grid.Back(st.Maps[0])
	for i, m := range st.Maps {
		st.Maps[i], _ = grid.After(m, back)
	}
	return st.Sheet, st.Maps
}
