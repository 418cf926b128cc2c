package grid_test

import (
	"math"
	"testing"

	"pleat/api"
	"pleat/grid"
)

const most = api.MaxPlace

// window: all triangles around the origin, on both sides of 0.
func window() []api.Tri {
	var out []api.Tri
	for x := -3; x <= 3; x++ {
		for y := -3; y <= 3; y++ {
			for k := range 4 {
				out = append(out, api.Tri{X: x, Y: y, K: k})
			}
		}
	}
	return out
}

// lines: all lines that go through or by the window.
func lines() []api.Line {
	var out []api.Line
	for way := range 4 {
		for c := -16; c <= 16; c += 2 {
			out = append(out, api.Line{Way: way, C: c})
		}
	}
	return out
}

// keepers: all eight turns and mirrors, at a few places.
func keepers() []api.Map {
	var out []api.Map
	for _, s := range []int{1, -1} {
		for _, u := range []int{1, -1} {
			for _, at := range []api.Point{{}, {X: 6, Y: -4}, {X: -2, Y: 8}} {
				out = append(out, api.Map{A: s, D: u, E: at.X, F: at.Y}, api.Map{B: s, C: u, E: at.X, F: at.Y})
			}
		}
	}
	return out
}

// farTris: triangles that may be, with numbers at the limits.
func farTris() []api.Tri {
	return []api.Tri{
		{X: most, Y: most, K: 0}, {X: -most, Y: -most, K: 3}, {X: -most, Y: most, K: 2}, {X: most, Y: -most, K: 1},
	}
}

func wrongTris() []api.Tri {
	return []api.Tri{
		{K: -1}, {K: 4}, {K: math.MinInt}, {K: math.MaxInt},
		{X: most + 1}, {X: -most - 1}, {Y: most + 1}, {Y: -most - 1},
		{X: math.MaxInt}, {X: math.MinInt}, {Y: math.MaxInt, K: 1}, {Y: math.MinInt, K: 2},
		{X: most + 1, Y: -most - 1, K: 9},
	}
}

func farLines() []api.Line {
	return []api.Line{{Way: api.Falling, C: most}, {Way: api.Falling, C: -most}, {Way: api.Rising, C: most}, {Way: api.Rising, C: -most}}
}

func wrongLines() []api.Line {
	return []api.Line{
		{Way: -1}, {Way: 4}, {Way: math.MinInt}, {Way: math.MaxInt},
		{C: 1}, {Way: api.Level, C: -1}, {Way: api.Falling, C: 3}, {Way: api.Rising, C: most - 1}, {Way: api.Falling, C: 1 - most},
		{C: most + 1}, {C: most + 2}, {C: -most - 1}, {C: -most - 2}, {Way: api.Rising, C: most + 2}, {Way: api.Falling, C: -most - 2},
		{C: math.MaxInt}, {C: math.MinInt}, {Way: api.Rising, C: math.MinInt},
	}
}

func farMaps() []api.Map {
	return []api.Map{
		{A: 1, D: 1, E: most, F: -most}, {A: -1, D: -1, E: -most, F: most}, {B: 1, C: -1, E: most, F: most}, {B: -1, C: 1, E: -most, F: -most},
	}
}

func wrongMaps() []api.Map {
	out := []api.Map{
		{}, {A: 1}, {D: 1}, {B: 1}, {C: -1}, {A: 1, B: 1}, {A: 1, C: 1}, {B: 1, D: 1}, {C: 1, D: 1},
		{A: 2, D: 1}, {A: 1, D: -2}, {B: 2, C: 1}, {B: 1, C: 3}, {A: 2, D: 2}, {A: 3, D: -3},
		{A: 1, B: 1, D: 1}, {A: 1, C: 1, D: 1}, {A: 1, B: 1, C: 1}, {B: 1, C: 1, D: -1}, {A: 1, B: 1, C: 1, D: 1}, {A: 1, B: -1, C: 1, D: 1},
		{A: math.MinInt, D: 1}, {A: 1, D: math.MaxInt}, {B: math.MinInt, C: math.MinInt}, {A: math.MaxInt, D: math.MaxInt},
	}
	for _, n := range []int{1, -1, most - 1, 1 - most, most + 1, -most - 1, most + 2, -most - 2, math.MaxInt, math.MaxInt - 1, math.MinInt} {
		out = append(out, api.Map{A: 1, D: 1, E: n}, api.Map{A: -1, D: 1, F: n}, api.Map{B: 1, C: 1, E: n}, api.Map{B: -1, C: 1, F: n})
	}
	return out
}

// good: the answer of a call that must not be refused.
func good[T any](t *testing.T) func(T, api.Errno) T {
	return func(v T, e api.Errno) T {
		t.Helper()
		if e != api.OK {
			t.Fatalf("refused with %d", e)
		}
		return v
	}
}

// refused: a call must be refused with this code, and answer nothing beside it.
func refused[T comparable](t *testing.T, want api.Errno, what ...any) func(T, api.Errno) {
	return func(v T, e api.Errno) {
		t.Helper()
		var none T
		if e != want || v != none {
			t.Errorf("%v: answered %v with %d, wanted nothing with %d", what, v, e, want)
		}
	}
}

func onto(a api.Map, p api.Point) api.Point {
	return api.Point{X: a.A*p.X + a.B*p.Y + a.E, Y: a.C*p.X + a.D*p.Y + a.F}
}

func less(p, q api.Point) bool { return p.X < q.X || p.X == q.X && p.Y < q.Y }

func height(way int, p api.Point) int {
	return []int{p.X, p.Y, p.X + p.Y, p.X - p.Y}[way]
}

// TestP1_1Wrong: what may not be is refused by every call, ahead of all else.
func TestP1_1Wrong(t *testing.T) {
	tri, line, keep := api.Tri{X: 1}, api.Line{C: 2}, api.Map{A: 1, D: 1}
	for _, x := range wrongTris() {
		refused[[3]api.Point](t, api.ErrRange, "Corners", x)(grid.Corners(x))
		refused[[3]api.Edge](t, api.ErrRange, "Edges", x)(grid.Edges(x))
		refused[api.Tri](t, api.ErrRange, "Across", x)(grid.Across(x, api.Edge{}))
		refused[int](t, api.ErrRange, "Side", x)(grid.Side(line, x))
		refused[api.Tri](t, api.ErrRange, "Move", x)(grid.Move(keep, x))
	}
	for _, l := range wrongLines() {
		refused[int](t, api.ErrRange, "Side", l)(grid.Side(l, tri))
		refused[api.Map](t, api.ErrRange, "Mirror", l)(grid.Mirror(l))
	}
	for _, m := range wrongMaps() {
		refused[api.Map](t, api.ErrRange, "After first", m)(grid.After(m, keep))
		refused[api.Map](t, api.ErrRange, "After second", m)(grid.After(keep, m))
		refused[api.Map](t, api.ErrRange, "Back", m)(grid.Back(m))
		refused[api.Tri](t, api.ErrRange, "Move", m)(grid.Move(m, tri))
	}
}

// TestP1_1Limits: what lies just at the limits may be.
func TestP1_1Limits(t *testing.T) {
	for _, x := range farTris() {
		good[[3]api.Point](t)(grid.Corners(x))
		good[[3]api.Edge](t)(grid.Edges(x))
		good[int](t)(grid.Side(api.Line{}, x))
		if y := good[api.Tri](t)(grid.Move(api.Map{A: 1, D: 1}, x)); y != x {
			t.Errorf("%v stays as %v", x, y)
		}
	}
	for _, l := range farLines() {
		good[int](t)(grid.Side(l, api.Tri{}))
		good[api.Map](t)(grid.Mirror(l))
	}
	for _, m := range append(farMaps(), keepers()...) {
		good[api.Map](t)(grid.Back(m))
		if n := good[api.Map](t)(grid.After(m, api.Map{A: 1, D: 1})); n != m {
			t.Errorf("%v and nothing more is %v", m, n)
		}
	}
}

// TestP1_2Corners: the four of one cell, at both sides of 0 and at the limits.
func TestP1_2Corners(t *testing.T) {
	want := map[api.Tri][3]api.Point{
		{X: 1, Y: -1, K: 0}:        {{X: 3, Y: -1}, {X: 2, Y: -2}, {X: 4, Y: -2}},
		{X: 1, Y: -1, K: 1}:        {{X: 3, Y: -1}, {X: 4, Y: -2}, {X: 4, Y: 0}},
		{X: 1, Y: -1, K: 2}:        {{X: 3, Y: -1}, {X: 4, Y: 0}, {X: 2, Y: 0}},
		{X: 1, Y: -1, K: 3}:        {{X: 3, Y: -1}, {X: 2, Y: 0}, {X: 2, Y: -2}},
		{X: most, Y: -most, K: 1}:  {{X: 2*most + 1, Y: 1 - 2*most}, {X: 2*most + 2, Y: -2 * most}, {X: 2*most + 2, Y: 2 - 2*most}},
		{X: -most, Y: most, K: 2}:  {{X: 1 - 2*most, Y: 2*most + 1}, {X: 2 - 2*most, Y: 2*most + 2}, {X: -2 * most, Y: 2*most + 2}},
		{X: -most, Y: -most, K: 3}: {{X: 1 - 2*most, Y: 1 - 2*most}, {X: -2 * most, Y: 2 - 2*most}, {X: -2 * most, Y: -2 * most}},
	}
	for x, c := range want {
		if got := good[[3]api.Point](t)(grid.Corners(x)); got != c {
			t.Errorf("%v: %v, wanted %v", x, got, c)
		}
	}
}

// TestP1_2Edges: in their order, each from its lesser point on.
func TestP1_2Edges(t *testing.T) {
	m, sw, se, ne, nw := api.Point{X: 1, Y: 1}, api.Point{}, api.Point{X: 2}, api.Point{X: 2, Y: 2}, api.Point{Y: 2}
	want := [4][3]api.Edge{
		{{P: sw, Q: m}, {P: sw, Q: se}, {P: m, Q: se}},
		{{P: m, Q: se}, {P: se, Q: ne}, {P: m, Q: ne}},
		{{P: m, Q: ne}, {P: nw, Q: ne}, {P: nw, Q: m}},
		{{P: nw, Q: m}, {P: sw, Q: nw}, {P: sw, Q: m}},
	}
	for k, w := range want {
		if got := good[[3]api.Edge](t)(grid.Edges(api.Tri{K: k})); got != w {
			t.Errorf("K %d: %v, wanted %v", k, got, w)
		}
	}
	for _, x := range append(window(), farTris()...) {
		c, es := good[[3]api.Point](t)(grid.Corners(x)), good[[3]api.Edge](t)(grid.Edges(x))
		for i, e := range es {
			p, q := c[i], c[(i+1)%3]
			if less(q, p) {
				p, q = q, p
			}
			if e != (api.Edge{P: p, Q: q}) {
				t.Errorf("%v: edge %d is %v", x, i, e)
			}
		}
	}
}

// TestP1_2Across: one cell by hand; elsewhere the one other triangle that has the edge.
func TestP1_2Across(t *testing.T) {
	want := [4][3]api.Tri{
		{{K: 3}, {Y: -1, K: 2}, {K: 1}},
		{{K: 0}, {X: 1, K: 3}, {K: 2}},
		{{K: 1}, {Y: 1, K: 0}, {K: 3}},
		{{K: 2}, {X: -1, K: 1}, {K: 0}},
	}
	for k, row := range want {
		x := api.Tri{K: k}
		for i, e := range good[[3]api.Edge](t)(grid.Edges(x)) {
			if got := good[api.Tri](t)(grid.Across(x, e)); got != row[i] {
				t.Errorf("%v across %v: %v, wanted %v", x, e, got, row[i])
			}
		}
	}
	owners := map[api.Edge][]api.Tri{}
	for _, x := range window() {
		for _, e := range good[[3]api.Edge](t)(grid.Edges(x)) {
			owners[e] = append(owners[e], x)
		}
	}
	for e, both := range owners {
		if len(both) != 2 {
			continue // at the rim of the window
		}
		for i, x := range both {
			if got := good[api.Tri](t)(grid.Across(x, e)); got != both[1-i] {
				t.Errorf("%v across %v: %v, wanted %v", x, e, got, both[1-i])
			}
		}
	}
}

// TestP1_2AcrossTwice: across an edge and across it again is the same triangle.
func TestP1_2AcrossTwice(t *testing.T) {
	for _, x := range window() {
		for _, e := range good[[3]api.Edge](t)(grid.Edges(x)) {
			y := good[api.Tri](t)(grid.Across(x, e))
			if z := good[api.Tri](t)(grid.Across(y, e)); y == x || z != x {
				t.Errorf("%v across %v: %v, then %v", x, e, y, z)
			}
		}
	}
}

// TestP1_2AcrossRim: what is handed in may be, so nothing is refused, though the answer is past the limits.
func TestP1_2AcrossRim(t *testing.T) {
	for x, want := range map[api.Tri]api.Tri{
		{X: most, Y: 7, K: 1}:    {X: most + 1, Y: 7, K: 3},
		{X: -most, Y: 7, K: 3}:   {X: -most - 1, Y: 7, K: 1},
		{X: most, Y: most, K: 2}: {X: most, Y: most + 1, K: 0},
		{X: 0, Y: -most, K: 0}:   {X: 0, Y: -most - 1, K: 2},
	} {
		side := good[[3]api.Edge](t)(grid.Edges(x))[1]
		if got := good[api.Tri](t)(grid.Across(x, side)); got != want {
			t.Errorf("%v: %v, wanted %v", x, got, want)
		}
	}
}

// TestP1_2AcrossWrong: an edge that is none of the triangle's.
func TestP1_2AcrossWrong(t *testing.T) {
	x := api.Tri{}
	for _, e := range []api.Edge{
		{},
		{P: api.Point{X: 1, Y: 1}, Q: api.Point{X: 2, Y: 2}}, // of the same cell's east
		{Q: api.Point{Y: 2}},                     // of the same cell's west
		{P: api.Point{X: 2}, Q: api.Point{X: 4}}, // of the next cell
		{P: api.Point{X: 1, Y: 1}},               // its own, from the greater point on
		{P: api.Point{X: 2}},                     // its side, from the greater point on
		{Q: api.Point{X: 1}},                     // half of its side
		{P: api.Point{X: math.MinInt, Y: math.MaxInt}, Q: api.Point{X: 1, Y: math.MaxInt}}, // nowhere
	} {
		refused[api.Tri](t, api.ErrPlace, x, e)(grid.Across(x, e))
	}
	for _, x := range window() {
		own := map[api.Edge]int{}
		for _, e := range good[[3]api.Edge](t)(grid.Edges(x)) {
			own[e]++
		}
		for k := range 4 {
			for _, e := range good[[3]api.Edge](t)(grid.Edges(api.Tri{X: x.X, Y: x.Y, K: k})) {
				if own[e] == 0 {
					refused[api.Tri](t, api.ErrPlace, x, e)(grid.Across(x, e))
				}
			}
		}
	}
}

// TestP1_3Side: all three corners lie on the side that is told, or on the line.
func TestP1_3Side(t *testing.T) {
	for _, l := range append(lines(), farLines()...) {
		for _, x := range append(window(), farTris()...) {
			want, off := 0, false
			for _, p := range good[[3]api.Point](t)(grid.Corners(x)) {
				if h := height(l.Way, p); h != l.C {
					if off && want > 0 != (h > l.C) {
						t.Fatalf("line %v goes through %v", l, x)
					}
					want, off = -1, true
					if h > l.C {
						want = 1
					}
				}
			}
			if got := good[int](t)(grid.Side(l, x)); got != want {
				t.Errorf("%v is on side %d of %v, wanted %d", x, got, l, want)
			}
		}
	}
}

// TestP1_3ByHand: triangles that touch their line.
func TestP1_3ByHand(t *testing.T) {
	for _, c := range []struct {
		l    api.Line
		x    api.Tri
		want int
	}{
		{api.Line{Way: api.Upright, C: 2}, api.Tri{X: 0, K: 1}, -1},
		{api.Line{Way: api.Upright, C: 2}, api.Tri{X: 1, K: 3}, 1},
		{api.Line{Way: api.Level, C: -2}, api.Tri{Y: -1, K: 0}, 1},
		{api.Line{Way: api.Level, C: -2}, api.Tri{Y: -2, K: 2}, -1},
		{api.Line{Way: api.Falling, C: 2}, api.Tri{K: 0}, -1},
		{api.Line{Way: api.Falling, C: 2}, api.Tri{K: 1}, 1},
		{api.Line{Way: api.Falling, C: 2}, api.Tri{K: 3}, -1},
		{api.Line{Way: api.Rising}, api.Tri{K: 0}, 1},
		{api.Line{Way: api.Rising}, api.Tri{K: 2}, -1},
		{api.Line{Way: api.Rising, C: 4}, api.Tri{K: 1}, -1},
	} {
		if got := good[int](t)(grid.Side(c.l, c.x)); got != c.want {
			t.Errorf("%v, %v: %d, wanted %d", c.l, c.x, got, c.want)
		}
	}
}
