package axiom

import (
	"cmp"
	"slices"
	"sort"

	"pleat/api"
)

// wrong: what is refused by all calls, of these straights and of the numbers of points. A number that is too far, anywhere, is ahead of a straight that is none.
func wrong(lines []api.Straight, numbers ...int) api.Errno {
	if tooFar(numbers...) {
		return api.ErrRange
	}
	if slices.ContainsFunc(lines, func(l api.Straight) bool { return tooFar(l.A, l.B, l.C) }) {
		return api.ErrRange
	}
	if slices.ContainsFunc(lines, wayless) {
		return api.ErrForm
	}
	return api.OK
}

func tooFar(numbers ...int) bool {
	return slices.ContainsFunc(numbers, func(n int) bool { return n < -api.MaxFar || n > api.MaxFar })
}

// alike: why two points tell no fold; OK: they do.
func alike(p, q api.Point) api.Errno {
	if code := wrong(nil, p.X, p.Y, q.X, q.Y); code != api.OK {
		return code
	}
	if p == q {
		return api.ErrTwice
	}
	return api.OK
}

// wayless: A and B are 0, so it goes nowhere.
func wayless(l api.Straight) bool { return l.A == 0 && l.B == 0 }

// off: 0, if the point lies on the straight; else above 0 on one side, below on the other.
func off(l api.Straight, p api.Point) int { return l.A*p.X + l.B*p.Y - l.C }

// turned: 0, if they are parallel.
func turned(l, m api.Straight) int { return l.A*m.B - l.B*m.A }

// along: through a point, that way.
func along(p api.Point, dx, dy int) api.Straight {
	return inForm(dy, -dx, dy*p.X-dx*p.Y)
}

// inForm: A and B are not both 0.
func inForm(a, b, c int) api.Straight {
	d := common(a, b, c)
	if a < 0 || a == 0 && b < 0 {
		d = -d
	}
	return api.Straight{A: a / d, B: b / d, C: c / d}
}

// common: the greatest number that divides them all.
func common(numbers ...int) int {
	d := 0
	for _, n := range numbers {
		for n != 0 {
			d, n = n, d%n
		}
	}
	return max(d, -d)
}

// squares of the numbers, together.
func squares(numbers ...int) int {
	sum := 0
	for _, n := range numbers {
		sum += n * n
	}
	return sum
}

// maxRoot: a straight's squares of A and B are no more than that, so the root of two of these is no more either.
const maxRoot = 2 * api.MaxFar * api.MaxFar

// root of a number that is at most the square of maxRoot; false: it has no whole one.
func root(n int) (int, bool) {
	r := sort.Search(maxRoot, func(r int) bool { return r*r >= n })
	return r, r*r == n
}

func compare(l, m api.Straight) int {
	return cmp.Or(cmp.Compare(l.A, m.A), cmp.Compare(l.B, m.B), cmp.Compare(l.C, m.C))
}
