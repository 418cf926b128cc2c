package axiom_test

import (
	"testing"

	"pleat/api"
	"pleat/axiom"
)

// task: two points, and where they shall come to.
type task struct {
	p api.Point
	l api.Straight
	q api.Point
	m api.Straight
}

func (c task) ask() (int, api.Errno) { return axiom.Both(c.p, c.l, c.q, c.m) }

func (c task) swapped() task { return task{c.q, c.m, c.p, c.l} }

// greater: all is k times as far, the numbers of the straights h times as great.
func (c task) greater(k, h int) task {
	p, q := point(k*c.p.X, k*c.p.Y), point(k*c.q.X, k*c.q.Y)
	return task{p, straight(h*c.l.A, h*c.l.B, h*k*c.l.C), q, straight(h*c.m.A, h*c.m.B, h*k*c.m.C)}
}

func (c task) may() bool {
	far := func(l ...int) bool {
		for _, n := range l {
			if n < -api.MaxFar || n > api.MaxFar {
				return true
			}
		}
		return false
	}
	return !far(c.p.X, c.p.Y, c.q.X, c.q.Y, c.l.A, c.l.B, c.l.C, c.m.A, c.m.B, c.m.C) && !wayless(c.l) && !wayless(c.m)
}

// wanted: by the chapter's words.
func (c task) wanted() (int, api.Errno) {
	if lies(c.p, c.l) || lies(c.q, c.m) {
		return 0, api.ErrPlace
	}
	n := both(c.p, c.l, c.q, c.m)
	if n < 0 {
		return 0, api.ErrKind
	}
	return n, api.OK
}

func (c task) check(t *testing.T) (int, api.Errno) {
	t.Helper()
	want, wanted := c.wanted()
	for _, c := range []task{c, c.swapped()} {
		if got, code := c.ask(); got != want || code != wanted {
			t.Fatalf("%v: %d, %v; not %d, %v", c, got, code, want, wanted)
		}
	}
	return want, wanted
}

func TestP13_3_Examples(t *testing.T) {
	for _, c := range []struct {
		what string
		task
		want int
		code api.Errno
	}{
		{"three", task{point(1, -3), straight(-2, 0, -3), point(1, 3), straight(-3, -2, 1)}, 3, api.OK},
		{"one", task{point(0, -1), straight(-2, 1, 3), point(4, -1), straight(-2, 0, 2)}, 1, api.OK},
		{"two, of which one counts twice", task{point(-2, -2), straight(3, 0, 3), point(4, -2), straight(1, 2, 3)}, 2, api.OK},
		{"one that counts three times", task{point(0, 0), straight(1, 0, 1), point(-1, -1), straight(0, 1, -2)}, 1, api.OK},
		{"parallels: two", task{point(2, 3), straight(3, 3, -2), point(4, 4), straight(3, 3, -3)}, 2, api.OK},
		{"parallels: one", task{point(0, 0), straight(1, 0, 2), point(0, 3), straight(1, 0, 2)}, 1, api.OK},
		{"parallels: one that counts twice", task{point(0, 0), straight(0, 1, 1), point(2, 0), straight(0, 1, 3)}, 1, api.OK},
		{"parallels: none, the points being one", task{point(-2, 1), straight(2, 0, 0), point(-2, 1), straight(2, 0, 3)}, 0, api.OK},
		{"parallels: none, the points straight behind one another", task{point(0, 0), straight(0, 1, 2), point(0, 3), straight(0, -1, -5)}, 0, api.OK},
		{"one line: one", task{point(0, 1), straight(0, 1, 0), point(5, 1), straight(0, -2, 0)}, 1, api.OK},
		{"one point: where the lines cross", task{point(0, 0), straight(1, 0, 2), point(0, 0), straight(1, 1, 3)}, 1, api.OK},
		{"one point, one line", task{point(0, 0), straight(1, 0, 2), point(0, 0), straight(1, 0, 2)}, 0, api.ErrKind},
		{"one point, one line, of unlike numbers", task{point(7, -4), straight(1, 2, 3), point(7, -4), straight(-300, -600, -900)}, 0, api.ErrKind},
		{"the first one lies there", task{point(2, 5), straight(1, 0, 2), point(0, 0), straight(1, 0, 2)}, 0, api.ErrPlace},
		{"the second one lies there", task{point(0, 0), straight(1, 0, 2), point(2, 5), straight(3, 0, 6)}, 0, api.ErrPlace},
		{"both lie there", task{point(2, 5), straight(1, 0, 2), point(2, 6), straight(1, 0, 2)}, 0, api.ErrPlace},
		{"one point, one line, and it lies there", task{point(2, 5), straight(1, 0, 2), point(2, 5), straight(1, 0, 2)}, 0, api.ErrPlace},
	} {
		for _, k := range []task{c.task, c.swapped()} {
			if got, code := k.ask(); got != c.want || code != c.code {
				t.Errorf("%s: %v: %d, %v", c.what, k, got, code)
			}
		}
		c.check(t)
	}
}

// TestP13_3_Drawn: held against the points of the one line to which the first may come, whichever pair is told first.
func TestP13_3_Drawn(t *testing.T) {
	d := die(7)
	var counts [2][4]int
	var codes [api.ErrName + 1]int
	for i := range 60000 {
		far := []int{2, 4, 30, api.MaxFar}[i%4]
		c := task{d.point(far), d.straight(far), d.point(far), d.straight(far)}
		if i%5 == 0 {
			c.l = d.straight(3)
			c.m = d.parallel(c.l)
		}
		if i%7 == 0 {
			c.q = c.p
		}
		n, code := c.check(t)
		codes[code]++
		if code == api.OK && sideBySide(c.l, c.m) {
			counts[1][n]++
		} else if code == api.OK {
			counts[0][n]++
		}
	}
	for _, few := range []int{counts[0][1], counts[0][2], counts[0][3], counts[1][0], counts[1][1], counts[1][2], codes[api.ErrPlace], codes[api.ErrKind]} {
		if few < 5 {
			t.Error("too few of a kind:", counts, codes)
		}
	}
	if counts[0][0] != 0 || counts[1][3] != 0 {
		t.Error("lines that cross have a fold, parallels have no three:", counts)
	}
}

// TestP13_3_Near: where two folds fall together, far out, and a little beside it; all of this leaves 64 bits.
func TestP13_3_Near(t *testing.T) {
	d := die(8)
	var counts [4]int
	for range 60000 {
		c := task{d.point(4), d.straight(3), d.point(4), d.straight(3)}
		if n, code := c.ask(); n != 2 || code != api.OK || sideBySide(c.l, c.m) {
			continue
		}
		for _, k := range []task{c.greater(200, 1), c.greater(1, 200), c.greater(20, 10), c.greater(-200, -1)} {
			if !k.may() {
				continue
			}
			if n, code := k.check(t); n != 2 || code != api.OK {
				t.Fatalf("%v: %d, %v", k, n, code)
			}
			for _, step := range []int{-1, 1} {
				near := []task{k, k, k, k}
				near[0].p.X += step
				near[1].l.C += step
				near[2].m.A += step
				near[3].q.Y += step
				for _, k := range near {
					if k.may() {
						n, _ := k.check(t)
						counts[n]++
					}
				}
			}
		}
	}
	if counts[1] < 50 || counts[3] < 50 {
		t.Error("too few of a kind:", counts)
	}
}

// TestP13_3_OneLine: two points beside it, as far off: only the fold between them and the line brings both there.
func TestP13_3_OneLine(t *testing.T) {
	for far := 1; far <= api.MaxFar; far *= 10 {
		c := task{point(0, far), straight(far, 0, far), point(0, -far), straight(far, 0, far)}
		if n, code := c.check(t); n != 1 || code != api.OK {
			t.Errorf("%d: %d, %v", far, n, code)
		}
	}
}

// TestP13_3_Form: a straight's numbers may be any that tell it.
func TestP13_3_Form(t *testing.T) {
	d := die(9)
	for range 2000 {
		c := task{d.point(9), d.straight(9), d.point(9), d.straight(9)}
		n, code := c.ask()
		for _, h := range []int{-1, 3, -100} {
			k := c.greater(1, h)
			if got, told := k.ask(); got != n || told != code {
				t.Fatalf("%v: %d, %v; %d times: %d, %v", c, n, code, h, got, told)
			}
		}
	}
}
