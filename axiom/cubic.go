package axiom

import (
	"math/big"

	"pleat/api"
)

// cubic of a way's two numbers a and b: of a a a, a a b, a b b, b b b how many.
type cubic [4]int

// bothWays: zero at those ways in which a point may be moved by a fold that brings p to l, and at the same time q to m.
//
// Let a fold be a X + b Y = c, and off(l, p) as far as p is from l. Then p comes to l, where
// off(l, p) (a a + b b) = 2 (a p.X + b p.Y - c) (l.A a + l.B b), and q to m likewise.
// Neither p nor q is there already, so no factor is 0, and each of the two tells c; c is the same by both, where this cubic is zero.
func bothWays(p api.Point, l api.Straight, q api.Point, m api.Straight) cubic {
	x, y := 2*(p.X-q.X), 2*(p.Y-q.Y)
	aa, ab, bb := l.A*m.A, l.A*m.B+l.B*m.A, l.B*m.B // what comes of (l.A a + l.B b) (m.A a + m.B b)
	u := off(l, p)*m.A - off(m, q)*l.A
	v := off(l, p)*m.B - off(m, q)*l.B
	return cubic{x*aa - u, x*ab + y*aa - v, x*bb + y*ab - u, y*bb - v}
}

// zeros: at how many ways is it zero? It is not zero at all of them, so at 1 to 3.
func (f cubic) zeros() int {
	switch f.parted() {
	case 1:
		return 3
	case -1:
		return 1
	}
	if f.oneZero() {
		return 1
	}
	return 2
}

// parted: 1, if it has three zeros; -1, if one and two that are no numbers; 0, if some are alike. (The sign of its discriminant, which does not go into 64 bits.)
func (f cubic) parted() int {
	a, b, c, d := f[0], f[1], f[2], f[3]
	return sign(
		product(18, a, b, c, d),
		product(-4, b, b, b, d),
		product(b, b, c, c),
		product(-4, a, c, c, c),
		product(-27, a, a, d, d),
	)
}

// oneZero: all three are alike.
func (f cubic) oneZero() bool {
	a, b, c, d := f[0], f[1], f[2], f[3]
	return sign(product(b, b), product(-3, a, c)) == 0 &&
		sign(product(b, c), product(-9, a, d)) == 0 &&
		sign(product(c, c), product(-3, b, d)) == 0
}

func product(numbers ...int) *big.Int {
	out := big.NewInt(1)
	for _, n := range numbers {
		out.Mul(out, big.NewInt(int64(n)))
	}
	return out
}

// sign of the numbers, together.
func sign(numbers ...*big.Int) int {
	sum := new(big.Int)
	for _, n := range numbers {
		sum.Add(sum, n)
	}
	return sum.Sign()
}
