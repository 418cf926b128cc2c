package grid_test

import (
	"slices"
	"testing"

	"pleat/api"
	"pleat/grid"
)

// TestP1_4Mirror: the maps of the four ways, by their numbers.
func TestP1_4Mirror(t *testing.T) {
	for l, want := range map[api.Line]api.Map{
		{Way: api.Upright, C: 2}:           {A: -1, D: 1, E: 4},
		{Way: api.Level, C: -6}:            {A: 1, D: -1, F: -12},
		{Way: api.Falling, C: 4}:           {B: -1, C: -1, E: 4, F: 4},
		{Way: api.Rising, C: 4}:            {B: 1, C: 1, E: 4, F: -4},
		{Way: api.Upright, C: most / 2}:    {A: -1, D: 1, E: most},
		{Way: api.Level, C: -most / 2}:     {A: 1, D: -1, F: -most},
		{Way: api.Falling, C: -most}:       {B: -1, C: -1, E: -most, F: -most},
		{Way: api.Rising, C: -most}:        {B: 1, C: 1, E: -most, F: most},
		{Way: api.Upright, C: -most/2 + 2}: {A: -1, D: 1, E: -most + 4},
	} {
		if got := good[api.Map](t)(grid.Mirror(l)); got != want {
			t.Errorf("%v: %v, wanted %v", l, got, want)
		}
	}
}

// TestP1_4MirrorTooGreat: twice C is past the limits, at upright and level lines alone.
func TestP1_4MirrorTooGreat(t *testing.T) {
	for _, c := range []int{most/2 + 2, -most/2 - 2, most, -most} {
		for _, way := range []int{api.Upright, api.Level} {
			l := api.Line{Way: way, C: c}
			refused[api.Map](t, api.ErrSize, l)(grid.Mirror(l))
		}
	}
}

// TestP1_4MirrorPoints: what lies on the line stays; a point and its image are as far from it, on a line across it.
func TestP1_4MirrorPoints(t *testing.T) {
	for _, l := range lines() {
		m := good[api.Map](t)(grid.Mirror(l))
		for _, x := range window() {
			p := good[[3]api.Point](t)(grid.Corners(x))[0]
			q := onto(m, p)
			if height(l.Way, p)+height(l.Way, q) != 2*l.C {
				t.Errorf("%v: %v comes to %v, not as far from the line", l, p, q)
			}
			straight := [4]int{api.Level, api.Upright, api.Rising, api.Falling}[l.Way]
			if height(straight, p) != height(straight, q) {
				t.Errorf("%v: %v comes to %v, not straight across", l, p, q)
			}
		}
	}
}

// TestP1_4MirrorTwice: mirrored twice all is where it was, and once on the unlike side.
func TestP1_4MirrorTwice(t *testing.T) {
	for _, l := range lines() {
		m := good[api.Map](t)(grid.Mirror(l))
		if twice := good[api.Map](t)(grid.After(m, m)); twice != (api.Map{A: 1, D: 1}) {
			t.Errorf("%v twice: %v", l, twice)
		}
		if undone := good[api.Map](t)(grid.Back(m)); undone != m {
			t.Errorf("%v is undone by %v", l, undone)
		}
		for _, x := range window() {
			y := good[api.Tri](t)(grid.Move(m, x))
			if good[int](t)(grid.Side(l, x)) != -good[int](t)(grid.Side(l, y)) {
				t.Errorf("%v: %v and %v lie on one side", l, x, y)
			}
			if z := good[api.Tri](t)(grid.Move(m, y)); z != x {
				t.Errorf("%v twice: %v comes to %v", l, x, z)
			}
		}
	}
}

// TestP1_4After: first a, then b, told by where points come to.
func TestP1_4After(t *testing.T) {
	right, up := api.Map{A: -1, D: 1, E: 4}, api.Map{B: 1, C: 1, E: 2, F: -2}
	if got, want := good[api.Map](t)(grid.After(right, up)), (api.Map{B: 1, C: -1, E: 2, F: 2}); got != want {
		t.Errorf("%v, wanted %v", got, want)
	}
	if got, want := good[api.Map](t)(grid.After(up, right)), (api.Map{B: -1, C: 1, E: 2, F: -2}); got != want {
		t.Errorf("%v, wanted %v", got, want)
	}
	for _, a := range keepers() {
		for _, b := range keepers() {
			both := good[api.Map](t)(grid.After(a, b))
			for _, p := range []api.Point{{}, {X: 2}, {Y: 2}, {X: 5, Y: -3}} {
				if onto(both, p) != onto(b, onto(a, p)) {
					t.Errorf("%v, then %v: %v brings %v to %v", a, b, both, p, onto(both, p))
				}
			}
		}
	}
}

// TestP1_4AfterTogether: maps may be put together as one likes.
func TestP1_4AfterTogether(t *testing.T) {
	after := func(a, b api.Map) api.Map { return good[api.Map](t)(grid.After(a, b)) }
	for _, a := range keepers() {
		for _, b := range keepers() {
			for _, c := range keepers() {
				if after(after(a, b), c) != after(a, after(b, c)) {
					t.Fatalf("%v, %v, %v: not as one likes", a, b, c)
				}
			}
		}
	}
}

// TestP1_4AfterTooGreat: sums at the limits and just past them, of either number.
func TestP1_4AfterTooGreat(t *testing.T) {
	step := func(x, y int) api.Map { return api.Map{A: 1, D: 1, E: x, F: y} }
	for _, c := range []struct {
		a, b api.Map
		want api.Errno
	}{
		{step(most-2, 0), step(2, 0), api.OK},
		{step(most, 0), step(2, 0), api.ErrSize},
		{step(2-most, 0), step(-2, 0), api.OK},
		{step(-most, 0), step(-2, 0), api.ErrSize},
		{step(0, most-2), step(0, 2), api.OK},
		{step(0, most), step(0, 2), api.ErrSize},
		{step(0, -most), step(0, -2), api.ErrSize},
		{step(most, most), step(most, most), api.ErrSize},
		{step(most, -most), step(-most, most), api.OK},
		{step(most, 0), api.Map{A: -1, D: 1, E: 2}, api.OK},
		{step(-most, 0), api.Map{A: -1, D: 1, E: 2}, api.ErrSize},
		{step(0, most), api.Map{B: 1, C: 1, E: 2}, api.ErrSize},
		{step(0, most), api.Map{B: 1, C: 1, F: 2}, api.OK},
	} {
		if c.want == api.OK {
			good[api.Map](t)(grid.After(c.a, c.b))
		} else {
			refused[api.Map](t, c.want, c.a, c.b)(grid.After(c.a, c.b))
		}
	}
}

// TestP1_4Back: what undoes a map does so ahead of it and behind it; no map is too great to be undone.
func TestP1_4Back(t *testing.T) {
	quarter := api.Map{B: -1, C: 1, E: 4, F: 2}
	if got, want := good[api.Map](t)(grid.Back(quarter)), (api.Map{B: 1, C: -1, E: -2, F: 4}); got != want {
		t.Errorf("%v, wanted %v", got, want)
	}
	for _, a := range append(keepers(), farMaps()...) {
		b := good[api.Map](t)(grid.Back(a))
		if x, y := good[api.Map](t)(grid.After(a, b)), good[api.Map](t)(grid.After(b, a)); x != (api.Map{A: 1, D: 1}) || y != x {
			t.Errorf("%v is not undone by %v", a, b)
		}
	}
}

func sortedCorners(c [3]api.Point) [3]api.Point {
	slices.SortFunc(c[:], func(p, q api.Point) int {
		if less(p, q) {
			return -1
		}
		return 1
	})
	return c
}

// TestP1_4Move: the triangle that has the images of the corners as its corners, the middle's as its middle.
func TestP1_4Move(t *testing.T) {
	for _, a := range keepers() {
		for _, x := range window() {
			was := good[[3]api.Point](t)(grid.Corners(x))
			is := good[[3]api.Point](t)(grid.Corners(good[api.Tri](t)(grid.Move(a, x))))
			if is[0] != onto(a, was[0]) {
				t.Errorf("%v: middle of %v at %v", a, x, is[0])
			}
			for i := range was {
				was[i] = onto(a, was[i])
			}
			if sortedCorners(was) != sortedCorners(is) {
				t.Errorf("%v: %v comes to corners %v, wanted %v", a, x, is, was)
			}
		}
	}
}

// TestP1_4MoveKeeps: maps keep what is across, and two of them do what both together do.
func TestP1_4MoveKeeps(t *testing.T) {
	move := func(a api.Map, x api.Tri) api.Tri { return good[api.Tri](t)(grid.Move(a, x)) }
	for _, a := range keepers() {
		for _, x := range window() {
			for _, e := range good[[3]api.Edge](t)(grid.Edges(x)) {
				p, q := onto(a, e.P), onto(a, e.Q)
				if less(q, p) {
					p, q = q, p
				}
				over := good[api.Tri](t)(grid.Across(move(a, x), api.Edge{P: p, Q: q}))
				if want := move(a, good[api.Tri](t)(grid.Across(x, e))); over != want {
					t.Errorf("%v: across %v of %v is %v, wanted %v", a, e, x, over, want)
				}
			}
		}
		for _, b := range keepers() {
			both := good[api.Map](t)(grid.After(a, b))
			for _, x := range window()[:9] {
				if move(both, x) != move(b, move(a, x)) {
					t.Errorf("%v, then %v: %v goes elsewhere", a, b, x)
				}
			}
		}
	}
}

// TestP1_4MoveTooGreat: where triangles come to, at the limits and just past them.
func TestP1_4MoveTooGreat(t *testing.T) {
	for _, c := range []struct {
		a    api.Map
		x    api.Tri
		want api.Tri
		code api.Errno
	}{
		{api.Map{A: 1, D: 1, E: 2}, api.Tri{X: most - 1, K: 1}, api.Tri{X: most, K: 1}, api.OK},
		{api.Map{A: 1, D: 1, E: 2}, api.Tri{X: most, K: 1}, api.Tri{}, api.ErrSize},
		{api.Map{A: 1, D: 1, E: -2}, api.Tri{X: -most, K: 1}, api.Tri{}, api.ErrSize},
		{api.Map{A: 1, D: 1, F: 2}, api.Tri{Y: most - 1, K: 2}, api.Tri{Y: most, K: 2}, api.OK},
		{api.Map{A: 1, D: 1, F: 2}, api.Tri{Y: most, K: 2}, api.Tri{}, api.ErrSize},
		{api.Map{A: 1, D: 1, F: -2}, api.Tri{Y: -most}, api.Tri{}, api.ErrSize},
		{api.Map{A: -1, D: 1}, api.Tri{X: most, K: 1}, api.Tri{}, api.ErrSize}, // it comes to -most - 1
		{api.Map{A: -1, D: 1}, api.Tri{X: most - 1, K: 1}, api.Tri{X: -most, K: 3}, api.OK},
		{api.Map{A: -1, D: 1}, api.Tri{X: -most, K: 3}, api.Tri{X: most - 1, K: 1}, api.OK},
		{api.Map{B: 1, C: 1}, api.Tri{X: most, Y: -most, K: 0}, api.Tri{X: -most, Y: most, K: 3}, api.OK},
		{api.Map{A: 1, D: 1, E: most, F: most}, api.Tri{X: most / 2, Y: most / 2}, api.Tri{X: most, Y: most}, api.OK},
		{api.Map{A: 1, D: 1, E: most, F: most}, api.Tri{X: most, Y: most}, api.Tri{}, api.ErrSize},
	} {
		if got, code := grid.Move(c.a, c.x); got != c.want || code != c.code {
			t.Errorf("%v, %v: %v with %d, wanted %v with %d", c.a, c.x, got, code, c.want, c.code)
		}
	}
}

// TestP1_4RangeFirst: what may not be is told ahead of what is too great.
func TestP1_4RangeFirst(t *testing.T) {
	far := api.Map{A: 1, D: 1, E: most, F: most}
	odd := api.Map{A: 1, D: 1, E: most - 1, F: most}
	refused[api.Map](t, api.ErrRange, "After")(grid.After(far, odd))
	refused[api.Map](t, api.ErrRange, "After")(grid.After(odd, far))
	refused[api.Tri](t, api.ErrRange, "Move")(grid.Move(far, api.Tri{X: most, Y: most, K: 4}))
	refused[api.Tri](t, api.ErrRange, "Move")(grid.Move(odd, api.Tri{X: most, Y: most}))
	refused[api.Map](t, api.ErrRange, "Mirror")(grid.Mirror(api.Line{Way: api.Upright, C: most - 1}))
	refused[api.Tri](t, api.ErrRange, "Across")(grid.Across(api.Tri{K: 4}, api.Edge{P: api.Point{X: 7}}))
}
