package axiom_test

import (
	"math/big"
	"slices"
	"testing"

	"pleat/api"
)

// die: numbers that look drawn, the same each time.
type die uint64

func (d *die) below(most int) int {
	*d = *d*6364136223846793005 + 1442695040888963407
	return int(uint64(*d>>33) % uint64(most))
}

// within: from -far to far.
func (d *die) within(far int) int { return d.below(2*far+1) - far }

func (d *die) point(far int) api.Point { return api.Point{X: d.within(far), Y: d.within(far)} }

// straight: not in form, as often as it comes so.
func (d *die) straight(far int) api.Straight {
	for {
		l := api.Straight{A: d.within(far), B: d.within(far), C: d.within(far)}
		if l.A != 0 || l.B != 0 {
			return l
		}
	}
}

// parallel to another one, within 8 times its numbers.
func (d *die) parallel(l api.Straight) api.Straight {
	k := d.within(8)
	if k == 0 {
		k = 1
	}
	return api.Straight{A: k * l.A, B: k * l.B, C: d.within(40)}
}

func whole(n int) *big.Rat                  { return new(big.Rat).SetInt64(int64(n)) }
func plus(a, b *big.Rat) *big.Rat           { return new(big.Rat).Add(a, b) }
func less(a, b *big.Rat) *big.Rat           { return new(big.Rat).Sub(a, b) }
func times(a, b *big.Rat) *big.Rat          { return new(big.Rat).Mul(a, b) }
func through(a, b *big.Rat) *big.Rat        { return new(big.Rat).Quo(a, b) }
func same(a, b *big.Rat) bool               { return a.Cmp(b) == 0 }
func dot(a, b, x, y *big.Rat) *big.Rat      { return plus(times(a, x), times(b, y)) }
func twice(a *big.Rat) *big.Rat             { return plus(a, a) }
func straight(a, b, c int) api.Straight     { return api.Straight{A: a, B: b, C: c} }
func point(x, y int) api.Point              { return api.Point{X: x, Y: y} }
func rightAngle(l, m api.Straight) bool     { return l.A*m.A+l.B*m.B == 0 }
func sideBySide(l, m api.Straight) bool     { return l.A*m.B == l.B*m.A }
func lies(p api.Point, l api.Straight) bool { return l.A*p.X+l.B*p.Y == l.C }

// oneLine: each of their numbers stands to the other's as all others do.
func oneLine(l, m api.Straight) bool {
	return sideBySide(l, m) && l.A*m.C == l.C*m.A && l.B*m.C == l.C*m.B
}

// spot: a point of the plane, between whole ones too.
type spot struct{ x, y *big.Rat }

func at(p api.Point) spot { return spot{whole(p.X), whole(p.Y)} }

func (s spot) is(t spot) bool { return same(s.x, t.x) && same(s.y, t.y) }

// off: how much A X + B Y is more than C.
func (s spot) off(l api.Straight) *big.Rat {
	return less(dot(whole(l.A), whole(l.B), s.x, s.y), whole(l.C))
}

func (s spot) on(l api.Straight) bool { return s.off(l).Sign() == 0 }

// mirrored at a fold.
func (s spot) mirrored(f api.Straight) spot {
	a, b := whole(f.A), whole(f.B)
	k := through(twice(s.off(f)), dot(a, b, a, b))
	return spot{less(s.x, times(k, a)), less(s.y, times(k, b))}
}

// away: the square of how far they are from each other.
func (s spot) away(t spot) *big.Rat {
	x, y := less(s.x, t.x), less(s.y, t.y)
	return dot(x, y, x, y)
}

// foot: a straight's point that is next to (0, 0), and others, a step away by the way along it.
func foot(l api.Straight, steps int) spot {
	n := whole(l.A*l.A + l.B*l.B)
	k := through(whole(l.C), n)
	return spot{plus(times(k, whole(l.A)), whole(-steps*l.B)), plus(times(k, whole(l.B)), whole(steps*l.A))}
}

// brings: does the fold lay the whole line l on m? Two of its points tell.
func brings(f, l, m api.Straight) bool {
	return foot(l, 0).mirrored(f).on(m) && foot(l, 1).mirrored(f).on(m)
}

// divisor: the greatest that the numbers have in common.
func divisor(numbers ...int) int {
	g := new(big.Int)
	for _, n := range numbers {
		g.GCD(nil, nil, g, big.NewInt(int64(max(n, -n))))
	}
	return int(g.Int64())
}

// formed: is it in form, as api says?
func formed(l api.Straight) bool {
	return divisor(l.A, l.B, l.C) == 1 && (l.A > 0 || l.A == 0 && l.B > 0)
}

// poly: of each power, from 0 on, how many.
type poly []*big.Rat

func polyOf(l ...*big.Rat) poly {
	for len(l) > 0 && l[len(l)-1].Sign() == 0 {
		l = l[:len(l)-1]
	}
	return l
}

func (f poly) part(i int) *big.Rat {
	if i < len(f) {
		return f[i]
	}
	return new(big.Rat)
}

func (f poly) minus(g poly) poly {
	var out []*big.Rat
	for i := range max(len(f), len(g)) {
		out = append(out, less(f.part(i), g.part(i)))
	}
	return polyOf(out...)
}

func (f poly) by(g poly) poly {
	if len(f) == 0 || len(g) == 0 {
		return nil
	}
	out := make([]*big.Rat, len(f)+len(g)-1)
	for i := range out {
		out[i] = new(big.Rat)
	}
	for i := range f {
		for j := range g {
			out[i+j] = plus(out[i+j], times(f[i], g[j]))
		}
	}
	return polyOf(out...)
}

func (f poly) steep() poly {
	var out []*big.Rat
	for i := 1; i < len(f); i++ {
		out = append(out, times(whole(i), f[i]))
	}
	return polyOf(out...)
}

// rest of f, when g is taken from it as often as it goes.
func (f poly) rest(g poly) poly {
	for len(f) >= len(g) {
		k := through(f[len(f)-1], g[len(g)-1])
		part := make([]*big.Rat, len(f)-len(g), len(f))
		for i := range part {
			part[i] = new(big.Rat)
		}
		for _, c := range g {
			part = append(part, times(k, c))
		}
		f = f.minus(polyOf(part...))
	}
	return f
}

// zeros: how many unlike numbers make it 0? By Sturm's chain: as many as its signs change more often far below than far above.
func (f poly) zeros() int {
	chain := []poly{f, f.steep()}
	for len(chain[len(chain)-1]) > 0 {
		n := len(chain)
		chain = append(chain, poly{}.minus(chain[n-2].rest(chain[n-1])))
	}
	var above, below []int
	for _, g := range chain[:len(chain)-1] {
		s := g[len(g)-1].Sign()
		above = append(above, s)
		if len(g)%2 == 0 {
			s = -s
		}
		below = append(below, s)
	}
	return changes(below) - changes(above)
}

func changes(signs []int) int {
	n := 0
	for i := 1; i < len(signs); i++ {
		if signs[i] != signs[i-1] {
			n++
		}
	}
	return n
}

// both: how many points of l are there, so that the fold that brings p to it lays q on m? -1: all of them. (p is not on l, nor q on m.)
func both(p api.Point, l api.Straight, q api.Point, m api.Straight) int {
	zero, one := foot(l, 0), foot(l, 1)
	// The way from p to the point of l that is t steps on.
	nx := polyOf(less(zero.x, whole(p.X)), less(one.x, zero.x))
	ny := polyOf(less(zero.y, whole(p.Y)), less(one.y, zero.y))
	long := nx.by(nx).plus(ny.by(ny))
	// How far q is behind the fold, which stands in the middle of that way; times 2.
	behind := nx.by(polyOf(whole(2 * (q.X - p.X)))).plus(ny.by(polyOf(whole(2 * (q.Y - p.Y))))).minus(long)
	tilt := nx.by(polyOf(whole(m.A))).plus(ny.by(polyOf(whole(m.B))))
	f := long.by(polyOf(at(q).off(m))).minus(behind.by(tilt))
	if len(f) == 0 {
		return -1
	}
	return f.zeros()
}

func (f poly) plus(g poly) poly { return f.minus(poly{}.minus(g)) }

// TestModel: the tests' own count of zeros.
func TestModel(t *testing.T) {
	linear := func(zero int) poly { return polyOf(whole(-zero), whole(1)) }
	none := polyOf(whole(1), whole(0), whole(1))
	for _, c := range []struct {
		what string
		f    poly
		want int
	}{
		{"three", linear(1).by(linear(2)).by(linear(-3)), 3},
		{"two alike", linear(1).by(linear(2)).by(linear(2)), 2},
		{"three alike", linear(5).by(linear(5)).by(linear(5)), 1},
		{"one", linear(1).by(none), 1},
		{"a square", linear(1).by(linear(1)), 1},
		{"none", none, 0},
		{"a line", linear(7), 1},
		{"a number", polyOf(whole(4)), 0},
	} {
		if n := c.f.zeros(); n != c.want {
			t.Errorf("%s: %d", c.what, n)
		}
	}
	if !slices.Equal([]bool{formed(straight(2, 4, 6)), formed(straight(0, -1, 0)), formed(straight(-1, 1, 0)), formed(straight(2, 4, 5))}, []bool{false, false, false, true}) {
		t.Error("formed")
	}
}
