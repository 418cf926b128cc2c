package axiom_test

import (
	"cmp"
	"math"
	"math/big"
	"slices"
	"testing"

	"pleat/api"
	"pleat/axiom"
)

// call: one of the seven, with what it takes: a point is two numbers, a straight three.
type call struct {
	name  string
	takes string // p: a point, l: a straight
	ask   func(n []int) (any, api.Errno)
	zero  any
}

func pointOf(n []int) api.Point       { return point(n[0], n[1]) }
func straightOf(n []int) api.Straight { return straight(n[0], n[1], n[2]) }

func calls() []call {
	return []call{
		{"Through", "pp", func(n []int) (any, api.Errno) { return results(axiom.Through(pointOf(n), pointOf(n[2:]))) }, api.Straight{}},
		{"Onto", "pp", func(n []int) (any, api.Errno) { return results(axiom.Onto(pointOf(n), pointOf(n[2:]))) }, api.Straight{}},
		{"Halves", "ll", func(n []int) (any, api.Errno) {
			l, code := axiom.Halves(straightOf(n), straightOf(n[3:]))
			return len(l), code
		}, 0},
		{"Upright", "lp", func(n []int) (any, api.Errno) { return results(axiom.Upright(straightOf(n), pointOf(n[3:]))) }, api.Straight{}},
		{"Across", "pll", func(n []int) (any, api.Errno) {
			return results(axiom.Across(pointOf(n), straightOf(n[2:]), straightOf(n[5:])))
		}, api.Straight{}},
		{"Turns", "plp", func(n []int) (any, api.Errno) {
			return results(axiom.Turns(pointOf(n), straightOf(n[2:]), pointOf(n[5:])))
		}, 0},
		{"Both", "plpl", func(n []int) (any, api.Errno) {
			return results(axiom.Both(pointOf(n), straightOf(n[2:]), pointOf(n[5:]), straightOf(n[7:])))
		}, 0},
	}
}

func results[T any](a T, code api.Errno) (any, api.Errno) { return a, code }

// numbers of a call, all points (x, y), all straights (a, b, c); and where its straights begin.
func (c call) numbers(x, y int, l api.Straight) (n, straights []int) {
	for _, r := range c.takes {
		if r == 'p' {
			n = append(n, x, y)
		} else {
			straights = append(straights, len(n))
			n = append(n, l.A, l.B, l.C)
		}
	}
	return n, straights
}

// TestP13_Far: a number beyond MaxFar is told ahead of all else: here the points are alike, the straights too, and some of them are none.
func TestP13_Far(t *testing.T) {
	for _, c := range calls() {
		for _, l := range []api.Straight{straight(1, 2, 3), straight(0, 0, 0), straight(0, 0, 5)} {
			n, _ := c.numbers(1, 1, l)
			for i := range n {
				for _, far := range []int{api.MaxFar + 1, -api.MaxFar - 1, math.MaxInt, math.MinInt, math.MaxInt32 + 1, 1 << 60} {
					m := slices.Clone(n)
					m[i] = far
					if got, code := c.ask(m); code != api.ErrRange || got != c.zero {
						t.Errorf("%s of %v: %v, %v", c.name, m, got, code)
					}
				}
			}
		}
	}
}

// TestP13_None: a straight with 0 for A and B is told ahead of what the calls say on their own.
func TestP13_None(t *testing.T) {
	for _, c := range calls() {
		n, straights := c.numbers(1, 1, straight(1, 2, 3))
		for _, i := range straights {
			for _, last := range []int{0, 1, -1, api.MaxFar, -api.MaxFar} {
				m := slices.Clone(n)
				m[i], m[i+1], m[i+2] = 0, 0, last
				if got, code := c.ask(m); code != api.ErrForm || got != c.zero {
					t.Errorf("%s of %v: %v, %v", c.name, m, got, code)
				}
			}
		}
	}
}

// TestP13_Edge: at MaxFar nothing is refused for its numbers.
func TestP13_Edge(t *testing.T) {
	for _, c := range calls() {
		n, _ := c.numbers(1, 2, straight(1, 2, 3))
		for i := range n {
			for _, far := range []int{api.MaxFar, -api.MaxFar} {
				m := slices.Clone(n)
				m[i] = far
				if _, code := c.ask(m); code == api.ErrRange || code == api.ErrForm {
					t.Errorf("%s of %v: %v", c.name, m, code)
				}
			}
		}
	}
}

func TestP13_1_Examples(t *testing.T) {
	fold := func(l api.Straight, code api.Errno) func(what string, want api.Straight) {
		return func(what string, want api.Straight) {
			if l != want || code != api.OK {
				t.Errorf("%s: %v, %v", what, l, code)
			}
		}
	}
	fold(axiom.Onto(point(0, 0), point(2, 0)))("the chapter's", straight(1, 0, 1))
	fold(axiom.Onto(point(2, 0), point(0, 0)))("the other way round", straight(1, 0, 1))
	fold(axiom.Onto(point(0, 0), point(1, 0)))("between whole numbers", straight(2, 0, 1))
	fold(axiom.Onto(point(0, 3), point(0, 0)))("level", straight(0, 2, 3))
	fold(axiom.Onto(point(0, 0), point(2, 2)))("falling", straight(1, 1, 2))
	fold(axiom.Through(point(0, 0), point(4, 2)))("by (2, 1) from (0, 0)", straight(1, -2, 0))
	fold(axiom.Through(point(5, -3), point(5, 9)))("upright", straight(1, 0, 5))
	fold(axiom.Through(point(9, -3), point(5, -3)))("level, below", straight(0, 1, -3))
	fold(axiom.Upright(straight(0, -4, 8), point(3, 7)))("upright on a level one", straight(1, 0, 3))
	fold(axiom.Upright(straight(2, 0, 8), point(3, 7)))("upright on an upright one", straight(0, 1, 7))
	fold(axiom.Upright(straight(1, 1, 2), point(1, 1)))("at a point of it", straight(1, -1, 0))
	fold(axiom.Across(point(0, 0), straight(1, 0, 4), straight(0, 1, 9)))("along a level one", straight(1, 0, 2))
	fold(axiom.Across(point(0, 0), straight(1, 0, 1), straight(1, 1, 0)))("along a falling one", straight(1, -1, 1))
	fold(axiom.Across(point(4, 6), straight(1, 0, 4), straight(0, 1, 9)))("it lies there already", straight(1, 0, 4))
}

func TestP13_1_HalvesExamples(t *testing.T) {
	for _, c := range []struct {
		what string
		l, m api.Straight
		want []api.Straight
		code api.Errno
	}{
		{"the chapter's", straight(1, 0, 0), straight(0, 1, 0), []api.Straight{{A: 1, B: -1}, {A: 1, B: 1}}, api.OK},
		{"not in form", straight(-7, 0, 0), straight(0, 3, 0), []api.Straight{{A: 1, B: -1}, {A: 1, B: 1}}, api.OK},
		{"level and upright come of falling and rising", straight(1, 1, 2), straight(1, -1, 0), []api.Straight{{B: 1, C: 1}, {A: 1, C: 1}}, api.OK},
		{"3, 4, 5", straight(3, 4, 0), straight(1, 0, 0), []api.Straight{{A: 1, B: -2}, {A: 2, B: 1}}, api.OK},
		{"whole together, not each", straight(1, 2, 0), straight(2, 1, 0), []api.Straight{{A: 1, B: -1}, {A: 1, B: 1}}, api.OK},
		{"no whole numbers", straight(1, 1, 0), straight(1, 0, 0), nil, api.ErrKind},
		{"no whole numbers, elsewhere", straight(1, 2, 3), straight(3, 1, -4), nil, api.ErrKind},
		{"parallel", straight(1, 0, 0), straight(1, 0, 4), []api.Straight{{A: 1, C: 2}}, api.OK},
		{"parallel, between whole numbers", straight(1, 0, 0), straight(1, 0, 1), []api.Straight{{A: 2, C: 1}}, api.OK},
		{"parallel, of unlike numbers", straight(2, 2, 1), straight(-3, -3, 1), []api.Straight{{A: 12, B: 12, C: 1}}, api.OK},
		{"parallel, with no whole length", straight(1, 2, 0), straight(1, 2, 2), []api.Straight{{A: 1, B: 2, C: 1}}, api.OK},
		{"parallel, on both sides of (0, 0)", straight(0, 1, 3), straight(0, -1, 3), []api.Straight{{B: 1}}, api.OK},
		{"one line", straight(1, 2, 3), straight(1, 2, 3), nil, api.ErrTwice},
		{"one line, unlike numbers", straight(1, 2, 3), straight(-2, -4, -6), nil, api.ErrTwice},
		{"one line through (0, 0)", straight(3, 0, 0), straight(-5, 0, 0), nil, api.ErrTwice},
	} {
		for range 2 {
			got, code := axiom.Halves(c.l, c.m)
			if !slices.Equal(got, c.want) || code != c.code {
				t.Errorf("%s: of %v and %v: %v, %v", c.what, c.l, c.m, got, code)
			}
			c.l, c.m = c.m, c.l
		}
	}
}

func TestP13_1_Twice(t *testing.T) {
	for _, p := range []api.Point{{}, point(3, -4), point(api.MaxFar, api.MaxFar), point(-api.MaxFar, 0)} {
		if l, code := axiom.Through(p, p); l != (api.Straight{}) || code != api.ErrTwice {
			t.Errorf("Through %v: %v, %v", p, l, code)
		}
		if l, code := axiom.Onto(p, p); l != (api.Straight{}) || code != api.ErrTwice {
			t.Errorf("Onto %v: %v, %v", p, l, code)
		}
	}
}

// TestP13_1_Points: Through and Onto of all pairs of near points, and of many far ones.
func TestP13_1_Points(t *testing.T) {
	check := func(p, q api.Point) {
		along, code := axiom.Through(p, q)
		if code != api.OK || !formed(along) || !lies(p, along) || !lies(q, along) {
			t.Fatalf("Through %v and %v: %v, %v", p, q, along, code)
		}
		fold, code := axiom.Onto(p, q)
		if code != api.OK || !formed(fold) || !at(p).mirrored(fold).is(at(q)) {
			t.Fatalf("%v onto %v: %v, %v", p, q, fold, code)
		}
		if !rightAngle(along, fold) {
			t.Fatalf("%v and %v: %v is not upright on %v", p, q, fold, along)
		}
		for steps := -1; steps <= 1; steps++ {
			if s := foot(fold, steps); !same(s.away(at(p)), s.away(at(q))) {
				t.Fatalf("%v and %v: a point of %v is nearer to one of them", p, q, fold)
			}
		}
	}
	for i := range 7 * 7 * 7 * 7 {
		p, q := point(i%7-3, i/7%7-3), point(i/49%7-3, i/343-3)
		if p != q {
			check(p, q)
		}
	}
	d := die(1)
	for range 500 {
		if p, q := d.point(api.MaxFar), d.point(api.MaxFar); p != q {
			check(p, q)
		}
	}
}

// TestP13_1_Upright: it has the point, and stands at a right angle.
func TestP13_1_Upright(t *testing.T) {
	d := die(2)
	for i := range 2000 {
		far := []int{3, 20, api.MaxFar}[i%3]
		l, p := d.straight(far), d.point(far)
		fold, code := axiom.Upright(l, p)
		if code != api.OK || !formed(fold) || !lies(p, fold) || !rightAngle(l, fold) || !brings(fold, l, l) {
			t.Fatalf("upright on %v through %v: %v, %v", l, p, fold, code)
		}
	}
}

// TestP13_1_Across: it stands upright on m, and lays p on l; of parallels there is none.
func TestP13_1_Across(t *testing.T) {
	d := die(3)
	none, most := 0, 0
	for i := range 3000 {
		far := []int{3, 20, api.MaxFar}[i%3]
		p, l, m := d.point(far), d.straight(far), d.straight(far)
		if i%10 == 0 {
			l = d.straight(100)
			m = d.parallel(l)
		}
		fold, code := axiom.Across(p, l, m)
		if sideBySide(l, m) {
			none++
			if code != api.ErrNone || fold != (api.Straight{}) {
				t.Fatalf("%v across %v, %v: %v, %v", p, l, m, fold, code)
			}
			continue
		}
		if code != api.OK || !formed(fold) || !rightAngle(m, fold) || !brings(fold, m, m) || !at(p).mirrored(fold).on(l) {
			t.Fatalf("%v across %v, %v: %v, %v", p, l, m, fold, code)
		}
		most = max(most, fold.C, -fold.C)
	}
	if none < 50 || most < 1e12 {
		t.Error("too few parallels, or too near numbers:", none, most)
	}
}

// TestP13_1_AcrossNone: a point that is on l already, or on m, or a line on itself.
func TestP13_1_AcrossNone(t *testing.T) {
	for _, m := range []api.Straight{straight(1, 2, 3), straight(1, 2, 4), straight(-2, -4, -6), straight(500, 1000, 0)} {
		if fold, code := axiom.Across(point(1, 1), straight(1, 2, 3), m); code != api.ErrNone || fold != (api.Straight{}) {
			t.Errorf("%v: %v, %v", m, fold, code)
		}
	}
}

// halved: every fold of these numbers that brings l onto m, where they cross, sought one by one.
func halved(l, m api.Straight, most int) []api.Straight {
	turn := l.A*m.B - l.B*m.A
	x, y := l.C*m.B-l.B*m.C, l.A*m.C-l.C*m.A // where they cross, times the turn
	var out []api.Straight
	for a := 0; a <= most; a++ {
		for b := -most; b <= most; b++ {
			n, k := a*a+b*b, 2*(l.A*a+l.B*b)
			if n == 0 || (n*l.A-k*a)*m.B != (n*l.B-k*b)*m.A {
				continue
			}
			a, b, c := a*turn, b*turn, a*x+b*y
			g := divisor(a, b, c)
			if a < 0 || a == 0 && b < 0 {
				g = -g
			}
			if f := straight(a/g, b/g, c/g); !slices.Contains(out, f) {
				out = append(out, f)
			}
		}
	}
	slices.SortFunc(out, rising)
	return out
}

func rising(l, m api.Straight) int {
	return cmp.Or(cmp.Compare(l.A, m.A), cmp.Compare(l.B, m.B), cmp.Compare(l.C, m.C))
}

// TestP13_1_HalvesAll: of all near ways, held against all folds there are.
func TestP13_1_HalvesAll(t *testing.T) {
	d := die(4)
	kinds := 0
	for i := range 5 * 5 * 5 * 5 {
		l, m := straight(i%5-2, i/5%5-2, d.within(5)), straight(i/25%5-2, i/125-2, d.within(5))
		if sideBySide(l, m) {
			continue
		}
		want, wanted := halved(l, m, 32), api.OK
		if len(want) == 0 {
			kinds++
			wanted = api.ErrKind
		}
		if got, code := axiom.Halves(l, m); code != wanted || !slices.Equal(got, want) {
			t.Fatalf("%v and %v: %v, %v; not %v", l, m, got, code, want)
		}
	}
	if kinds < 100 || kinds > 400 {
		t.Error("of so many no whole ones:", kinds)
	}
}

// TestP13_1_Halves: what comes out brings each onto the other, in form and rising; two folds of lines that cross, one of parallels.
func TestP13_1_Halves(t *testing.T) {
	d := die(5)
	var count [3]int
	for i := range 6000 {
		far := []int{5, 20, api.MaxFar}[i%3]
		l, m := d.straight(far), d.straight(far)
		switch i % 5 {
		case 0: // of a length that is whole
			m = straight(5*d.within(100)+3, 0, d.within(far))
			l = straight(3*d.within(200), 1, d.within(far))
			l.B = l.A / 3 * 4
		case 1: // of one length
			m = straight(l.B, l.A, d.within(far))
		case 2:
			l = d.straight(100)
			m = d.parallel(l)
		}
		if wayless(l) || wayless(m) {
			continue
		}
		got, code := axiom.Halves(l, m)
		n := big.NewInt(int64((l.A*l.A + l.B*l.B) * (m.A*m.A + m.B*m.B)))
		r := new(big.Int).Sqrt(n)
		want, wanted := 2, api.OK
		switch {
		case oneLine(l, m):
			want, wanted = 0, api.ErrTwice
		case sideBySide(l, m):
			want = 1
		case r.Mul(r, r).Cmp(n) != 0:
			want, wanted = 0, api.ErrKind
		}
		count[want]++
		if len(got) != want || code != wanted || !slices.IsSortedFunc(got, rising) {
			t.Fatalf("%v and %v: %v, %v", l, m, got, code)
		}
		for _, f := range got {
			if !formed(f) || !brings(f, l, m) || !brings(f, m, l) {
				t.Fatalf("%v and %v: %v", l, m, f)
			}
		}
		if want == 2 && got[0] == got[1] {
			t.Fatalf("%v and %v: twice %v", l, m, got)
		}
	}
	if count[0] < 500 || count[1] < 500 || count[2] < 500 {
		t.Error("too few of a kind:", count)
	}
}

func wayless(l api.Straight) bool { return l.A == 0 && l.B == 0 }

// TestP13_1_HalvesFar: at the greatest lengths.
func TestP13_1_HalvesFar(t *testing.T) {
	far := api.MaxFar
	for _, c := range []struct{ l, m api.Straight }{
		{straight(far, far, far), straight(far, -far, far)},
		{straight(far, far, -far), straight(-far, far, 1-far)},
		{straight(far, far-1, far), straight(far-1, far, -far)},
		{straight(far, far, far), straight(far, far, far-1)},
		{straight(far, far, far), straight(-far, -far, far)},
		{straight(1, 0, far), straight(0, far, 1)},
	} {
		got, code := axiom.Halves(c.l, c.m)
		if code != api.OK || len(got) == 0 {
			t.Errorf("%v and %v: %v, %v", c.l, c.m, got, code)
		}
		for _, f := range got {
			if !formed(f) || !brings(f, c.l, c.m) {
				t.Errorf("%v and %v: %v", c.l, c.m, f)
			}
		}
	}
	if got, code := axiom.Halves(straight(far, far, 0), straight(far, far-1, 0)); code != api.ErrKind {
		t.Error(got, code)
	}
}

// TestP13_1_NewMemory: what one holds of an answer is not changed by a later call, nor by what is written behind it.
func TestP13_1_NewMemory(t *testing.T) {
	for _, m := range []api.Straight{straight(0, 1, 0), straight(1, 0, 3)} {
		first, _ := axiom.Halves(straight(1, 0, 0), m)
		want := slices.Clone(first)
		second, _ := axiom.Halves(straight(1, 0, 0), m)
		for i := range second[:cap(second)] {
			second[:cap(second)][i] = straight(9, 9, 9)
		}
		if third, _ := axiom.Halves(straight(1, 0, 0), m); !slices.Equal(first, want) || !slices.Equal(third, want) {
			t.Errorf("%v, then %v", want, third)
		}
	}
}

func TestP13_2_Examples(t *testing.T) {
	for _, c := range []struct {
		what string
		p    api.Point
		l    api.Straight
		q    api.Point
		want int
		code api.Errno
	}{
		{"it reaches beyond", point(5, 0), straight(1, 0, 3), point(0, 0), 2, api.OK},
		{"it just reaches", point(3, 0), straight(0, 1, 3), point(0, 0), 1, api.OK},
		{"it just reaches, below", point(3, 0), straight(0, 1, -3), point(0, 0), 1, api.OK},
		{"it just reaches, slanted", point(0, 5), straight(3, 4, 25), point(0, 0), 1, api.OK},
		{"it does not reach", point(3, 0), straight(0, 1, 4), point(0, 0), 0, api.OK},
		{"it does not quite reach, slanted", point(0, 5), straight(3, 4, 26), point(0, 0), 0, api.OK},
		{"a bit beyond, slanted", point(0, 5), straight(3, 4, 24), point(0, 0), 2, api.OK},
		{"it lies there", point(0, 5), straight(0, 1, 5), point(3, 1), 2, api.OK},
		{"it lies there, and stays alone", point(0, 5), straight(0, 1, 5), point(0, 1), 1, api.OK},
		{"around a point of the line", point(0, 5), straight(0, 1, 1), point(0, 1), 2, api.OK},
		{"not in form", point(3, 0), straight(0, -7, -21), point(0, 0), 1, api.OK},
		{"one point", point(3, 1), straight(0, 1, 3), point(3, 1), 0, api.ErrTwice},
		{"one point, on the line", point(3, 3), straight(0, 1, 3), point(3, 3), 0, api.ErrTwice},
	} {
		if got, code := axiom.Turns(c.p, c.l, c.q); got != c.want || code != c.code {
			t.Errorf("%s: %d, %v", c.what, got, code)
		}
	}
}

// reached: how many points of l are as far from q as p is.
func reached(p api.Point, l api.Straight, q api.Point) int {
	zero, one := foot(l, 0), foot(l, 1)
	x := polyOf(less(zero.x, whole(q.X)), less(one.x, zero.x))
	y := polyOf(less(zero.y, whole(q.Y)), less(one.y, zero.y))
	return x.by(x).plus(y.by(y)).minus(polyOf(at(p).away(at(q)))).zeros()
}

// TestP13_2_Turns: held against the points of the line; and each of these by the fold that brings p there.
func TestP13_2_Turns(t *testing.T) {
	d := die(6)
	var count [3]int
	for i := range 6000 {
		far := []int{3, 6, api.MaxFar}[i%3]
		p, l, q := d.point(far), d.straight(far), d.point(far)
		if i%4 == 0 { // so that it just reaches
			v := point(d.within(15), d.within(15))
			q = d.point(30)
			p = point(q.X+v.Y, q.Y-v.X)
			l = straight(v.X, v.Y, v.X*(q.X+v.X)+v.Y*(q.Y+v.Y))
		}
		if p == q || wayless(l) || max(l.C, -l.C) > api.MaxFar {
			continue
		}
		want := reached(p, l, q)
		count[want]++
		if got, code := axiom.Turns(p, l, q); got != want || code != api.OK {
			t.Fatalf("%v to %v around %v: %d, %v; not %d", p, l, q, got, code, want)
		}
	}
	if count[0] < 500 || count[1] < 500 || count[2] < 500 {
		t.Error("too few of a kind:", count)
	}
}

// TestP13_2_Whole: of whole points on a line each one that is as far from q tells a fold through q.
func TestP13_2_Whole(t *testing.T) {
	q, p, l := point(0, 0), point(0, 25), straight(1, 0, 7)
	for _, to := range []api.Point{point(7, 24), point(7, -24)} {
		fold, code := axiom.Onto(p, to)
		if code != api.OK || !lies(q, fold) || !lies(to, l) {
			t.Error(to, fold, code)
		}
	}
	if n, code := axiom.Turns(p, l, q); n != 2 || code != api.OK {
		t.Error(n, code)
	}
}
