package solve_test

import (
	"slices"
	"sync"
	"testing"

	"pleat/api"
	"pleat/faces"
	"pleat/flat"
	"pleat/samples"
	"pleat/solve"
	"pleat/stack"
	"pleat/vertex"
)

func TestP7_1_Example(t *testing.T) {
	for _, kind := range []int{m, v} {
		if n, e := solve.Count(strip(kind)); n != 1 || e != api.OK {
			t.Error(kind, n, e)
		}
	}
}

// As many as there are among all states of the sheet.
func TestP7_1_AllStates(t *testing.T) {
	sheets, states := asked()
	left, tried, counts := 60000, 0, map[int]int{}
	for i, s := range sheets {
		if states[i] < 2 || states[i] > 800 || states[i] > left {
			continue
		}
		left -= states[i]
		tried++
		st, _ := placed(s)
		want := without(st)
		counts[min(want, 4)]++
		if n, e := solve.Count(s); n != want || e != api.OK {
			t.Errorf("%v: %d, %d, wanted %d", s, n, e, want)
		}
	}
	if tried < 500 || len(counts) < 5 {
		t.Errorf("%d sheets, of which so many have 0, 1, .. states: %v", tried, counts)
	}
}

// A strip of stamps lies in one pile in so many ways, whatever the kinds of its creases are.
func TestP7_1_Stamps(t *testing.T) {
	for i, want := range []int{1, 2, 6, 16, 50, 144} {
		s, sum := samples.Full(i+1, 1), 0
		kindings(s, between(s), func(s api.Sheet) {
			n, e := solve.Count(s)
			if e != api.OK {
				t.Error(s, e)
			}
			sum += n
		})
		if sum != want {
			t.Errorf("%d stamps: %d, wanted %d", i+1, sum, want)
		}
	}
}

// A map of cells, all of which come to lie on one, has so many foldings.
func TestP7_1_Maps(t *testing.T) {
	for _, c := range []struct{ w, h, want int }{{2, 2, 8}, {3, 2, 60}, {2, 3, 60}} {
		s, sum := samples.Full(c.w, c.h), 0
		kindings(s, between(s), func(s api.Sheet) {
			n, _ := solve.Count(s)
			sum += n
		})
		if sum != c.want {
			t.Errorf("%d and %d cells: %d, wanted %d", c.w, c.h, sum, c.want)
		}
	}
}

func TestP7_1_Known(t *testing.T) {
	cell := samples.Full(1, 1)
	ring := samples.Masked(3, 3, 15, 15, 15, 15, 0, 15, 15, 15, 15)
	for name, c := range map[string]struct {
		s    api.Sheet
		want int
	}{
		"one triangle":                   {samples.Masked(1, 1, 4), 1},
		"one cell":                       {cell, 1},
		"as great as may be":             {samples.Full(4, 2), 1},
		"a ring":                         {ring, 1},
		"four triangles on one":          {samples.With(cell, samples.Crease(v, 0, 0, 1, 1), samples.Crease(v, 0, 2, 1, 1), samples.Crease(v, 1, 1, 2, 0), samples.Crease(m, 1, 1, 2, 2)), 1},
		"two of each kind":               {samples.With(cell, samples.Crease(v, 0, 0, 1, 1), samples.Crease(v, 0, 2, 1, 1), samples.Crease(m, 1, 1, 2, 0), samples.Crease(m, 1, 1, 2, 2)), 0},
		"all of one kind":                {samples.With(cell, samples.Crease(v, 0, 0, 1, 1), samples.Crease(v, 0, 2, 1, 1), samples.Crease(v, 1, 1, 2, 0), samples.Crease(v, 1, 1, 2, 2)), 0},
		"rolled up, either end in first": {strip(v, v), 2},
		"to and fro":                     {strip(v, m), 1},
		"both ends rolled up":            {strip(v, v, 0, 0, v, v), 1}, // what is between goes on: no end comes under it
		"six cells to and fro":           {strip(v, m, v, m, v), 1},
	} {
		if n, e := solve.Count(c.s); n != c.want || e != api.OK {
			t.Errorf("%s: %d, %d, wanted %d", name, n, e, c.want)
		}
	}
}

func TestP7_2_Solve(t *testing.T) {
	sheets, _ := asked()
	none := 0
	for _, s := range sheets {
		n, e := solve.Count(s)
		st, f := solve.Solve(s)
		maps, _ := flat.Place(s)
		clashes, _ := stack.Clashes(st)
		switch {
		case n == 0:
			none++
			if e != api.OK || f != api.ErrNone || !samples.SameState(st, api.State{}) {
				t.Errorf("%v: %d, %v, %d: there is none", s, e, st, f)
			}
		case e != api.OK || f != api.OK || !stack.May(st) || len(clashes) > 0 || !samples.SameSheet(st.Sheet, s) || !slices.Equal(st.Maps, maps):
			t.Errorf("%v: %d, %v, %d, with clashes: %v", s, e, st, f, clashes)
		}
	}
	if none < 100 || len(sheets)-none < 100 {
		t.Errorf("of %d sheets %d have none", len(sheets), none)
	}
}

func TestP7_2_Example(t *testing.T) {
	want, _ := stack.Lay(strip(v), []int{0, 1})
	if st, e := solve.Solve(strip(v)); e != api.OK || !samples.SameState(st, want) {
		t.Error(st, e)
	}
}

// fan: triangles around a corner, so many of them, each creased from the next one: all come to one place.
func fan(count int) api.Sheet {
	s := samples.Masked(2, 2, 0, 0, 0, 0)
	around := []api.Tri{{X: 1, Y: 1, K: 0}, {X: 1, Y: 1, K: 3}, {X: 0, Y: 1, K: 1}, {X: 0, Y: 1, K: 0}, {X: 0, Y: 0, K: 2}, {X: 0, Y: 0, K: 1}, {X: 1, Y: 0, K: 3}, {X: 1, Y: 0, K: 2}}
	for _, t := range around[:count] {
		s.Mask[t.Y*2+t.X] |= 1 << t.K
	}
	return samples.Creased(s, func(int) bool { return true })
}

func TestP7_Refused(t *testing.T) {
	torn := samples.With(samples.Full(1, 1), samples.Crease(v, 0, 0, 1, 1))
	more := samples.Masked(3, 3, 15, 15, 15, 15, 15, 15, 15, 15, 1)
	most := samples.Masked(3, 3, 15, 15, 15, 15, 15, 15, 15, 15, 0)
	gap := samples.Masked(3, 3, 15, 15, 15, 15, 15, 15, 15, 15, 4)
	for name, c := range map[string]struct {
		s    api.Sheet
		want api.Errno
	}{
		"torn":                              {torn, api.ErrTear},
		"torn, too great":                   {samples.With(samples.Full(8, 8), torn.Creases...), api.ErrTear},
		"torn, one too many":                {samples.With(more, torn.Creases...), api.ErrTear},
		"as many as may be":                 {most, api.OK},
		"one too many":                      {more, api.ErrSize},
		"greatest":                          {samples.Full(8, 8), api.ErrSize},
		"too great, creased":                {samples.Creased(samples.Full(8, 8), func(int) bool { return true }), api.ErrSize},
		"not joined, one too many":          {gap, api.ErrState},
		"crease where nothing is, too many": {samples.With(more, samples.Crease(v, 4, 6, 5, 5)), api.ErrState},
		"six at one place":                  {fan(6), api.OK},
		"seven at one place":                {fan(7), api.ErrSize},
		"six cells in a pile":               {strip(v, m, v, m, v), api.OK},
		"seven cells in a pile":             {strip(v, m, v, m, v, m), api.ErrSize},
		"seven, two of them side by side":   {strip(v, m, v, m, v, 0), api.OK},
		"wound up, at one place seven":      {strip(v, v, v, v, v, v), api.ErrSize},
	} {
		n, e := solve.Count(c.s)
		if e != c.want || e != api.OK && n != 0 {
			t.Errorf("%s: Count: %d, %d, wanted %d", name, n, e, c.want)
		}
		st, f := solve.Solve(c.s)
		if c.want == api.OK && n == 0 {
			c.want = api.ErrNone
		}
		if f != c.want || (f == api.OK) == samples.SameState(st, api.State{}) {
			t.Errorf("%s: Solve: %v, %d, wanted %d", name, st, f, c.want)
		}
	}
	for name, s := range samples.Wrong() {
		n, e := solve.Count(s)
		st, f := solve.Solve(s)
		if n != 0 || e != api.ErrState || f != api.ErrState || !samples.SameState(st, api.State{}) {
			t.Errorf("%s: %d, %d, %v, %d", name, n, e, st, f)
		}
	}
}

func TestP7_KindsChanged(t *testing.T) {
	sheets, _ := asked()
	for _, s := range sheets {
		n, _ := solve.Count(s)
		if other, e := solve.Count(changed(s)); other != n || e != api.OK {
			t.Errorf("%v: %d, changed: %d, %d", s, n, other, e)
		}
	}
}

// It does not matter which triangle is the first one.
func TestP7_Mirrored(t *testing.T) {
	sheets, _ := asked()
	for _, s := range sheets {
		n, _ := solve.Count(s)
		if other, e := solve.Count(mirrored(s)); other != n || e != api.OK {
			t.Errorf("%v: %d, mirrored: %d, %d", s, n, other, e)
		}
	}
}

// flatStar: does a point with all around it there go flat by chapter 5?
func flatStar(star api.Star) bool {
	var angles []int
	for i, d := range star.Dirs {
		angles = append(angles, (star.Dirs[(i+1)%len(star.Dirs)]+7-d)%8+1)
	}
	flat, _ := vertex.Flat(angles, star.Kinds)
	return flat
}

func TestP7_StarsThatAreNotFlat(t *testing.T) {
	sheets, _ := asked()
	some := 0
	for _, s := range sheets {
		stars, _ := faces.Stars(s)
		if slices.ContainsFunc(stars, func(star api.Star) bool { return !flatStar(star) }) {
			some++
			if n, e := solve.Count(s); n != 0 || e != api.OK {
				t.Errorf("%v: %d, %d: a star is not flat", s, n, e)
			}
		}
	}
	if some < 50 {
		t.Error("only so many with such a star:", some)
	}
}

// With one star alone there is a state just if that star is flat.
func TestP7_OneStarAlone(t *testing.T) {
	count := 0
	samples.AllRays(func(kinds [8]int) {
		s := samples.Rays(kinds)
		stars, _ := faces.Stars(s)
		if _, ok := placed(s); !ok {
			return
		}
		want := true
		for _, star := range stars {
			want = want && flatStar(star)
		}
		count++
		if n, e := solve.Count(s); (n > 0) != want || e != api.OK {
			t.Errorf("%v: %d, %d, flat: %t", kinds, n, e, want)
		}
	})
	if count < 100 {
		t.Error("only so many:", count)
	}
}

// Whoever is ready first: the answer is the same.
func TestP7_SameEachTime(t *testing.T) {
	s := strip(v, v, v, m, v)
	first, e := solve.Solve(s)
	count, f := solve.Count(s)
	if e != api.OK || f != api.OK || count < 2 {
		t.Fatal(first, e, count, f)
	}
	states, counts := make([]api.State, 60), make([]int, 60)
	var all sync.WaitGroup
	for i := range states {
		all.Go(func() {
			states[i], _ = solve.Solve(s)
			counts[i], _ = solve.Count(s)
		})
	}
	all.Wait()
	for i, st := range states {
		if !samples.SameState(st, first) || counts[i] != count {
			t.Errorf("now %v, then %v; %d, then %d", first, st, count, counts[i])
		}
	}
}

func TestP7_WhatIsHandedInStays(t *testing.T) {
	sheets, _ := asked()
	sheets = slices.AppendSeq(sheets[:50:50], func(yield func(api.Sheet) bool) {
		for _, s := range samples.Good() {
			yield(s)
		}
	})
	for _, s := range sheets {
		roomy, stays := samples.Roomy(s)
		n, e := solve.Count(roomy)
		st, f := solve.Solve(roomy)
		if !stays() {
			t.Errorf("changed: %v", s)
		}
		if other, code := solve.Count(s); other != n || code != e {
			t.Errorf("%v: %d, %d, with spare room %d, %d", s, other, code, n, e)
		}
		if other, code := solve.Solve(s); !samples.SameState(other, st) || code != f {
			t.Errorf("%v: %v, %d, with spare room %v, %d", s, other, code, st, f)
		}
	}
}

func TestP7_NewMemory(t *testing.T) {
	s, stays := samples.Roomy(strip(v, v, m))
	first, _ := solve.Solve(s)
	was := samples.CopyState(first)
	second, _ := solve.Solve(s)
	samples.Scribble(second)
	if !stays() || !samples.SameState(first, was) {
		t.Error("an answer shares memory with the sheet, or with another answer")
	}
	for i := range first.Stacks {
		was := samples.CopyState(first)
		list := first.Stacks[i].Tris[:cap(first.Stacks[i].Tris)]
		for j := range list {
			list[j] = api.Tri{X: 99}
		}
		was.Stacks[i], first.Stacks[i] = api.Stack{}, api.Stack{}
		if !samples.SameState(first, was) {
			t.Error("two lists of an answer share memory")
		}
	}
}
