package view_test

import (
	"slices"
	"strings"
	"testing"

	"pleat/api"
	"pleat/fold"
	"pleat/samples"
	"pleat/sheet"
	"pleat/stack"
	"pleat/view"
)

// by folds, one behind the other; all of them go.
func by(t *testing.T, s api.Sheet, folds ...api.Fold) api.State {
	t.Helper()
	st, _ := fold.Flat(s)
	for _, f := range folds {
		next, e := fold.Do(st, f)
		if e != api.OK {
			t.Fatal(f, e)
		}
		st = next
	}
	return st
}

func two(t *testing.T) api.State { return by(t, samples.Full(2, 1), at(api.Upright, 2, 1, true)) }

// held against the chapter's words: all three calls.
func held(t *testing.T, name string, st api.State) {
	t.Helper()
	want, code := wantedTop(st)
	if got, e := view.Top(st); e != code || !slices.Equal(got, want) {
		t.Errorf("%s: top %v, %d, wanted %v, %d", name, got, e, want, code)
	}
	most, places, code := wantedThick(st)
	if n, m, e := view.Thick(st); n != most || m != places || e != code {
		t.Errorf("%s: thick %d, %d, %d, wanted %d, %d, %d", name, n, m, e, most, places, code)
	}
	text, code := wantedPicture(st)
	if got, e := view.Picture(st); got != text || e != code {
		t.Errorf("%s: picture %q, %d, wanted %q, %d", name, got, e, text, code)
	}
}

func TestP12_Example(t *testing.T) {
	laid, _ := stack.Lay(samples.With(samples.Full(2, 1), samples.Crease(api.Valley, 2, 0, 2, 2)), []int{0, 1})
	for _, st := range []api.State{two(t), laid} {
		if got, e := view.Picture(st); got != "ff\n" || e != api.OK {
			t.Errorf("%q, %d", got, e)
		}
		if n, m, e := view.Thick(st); n != 2 || m != 4 || e != api.OK {
			t.Error(n, m, e)
		}
	}
}

func TestP12_1_Refused(t *testing.T) {
	for name, st := range samples.WrongStates() {
		if got, e := view.Top(st); len(got) != 0 || e != api.ErrState {
			t.Errorf("%s: %v, %d", name, got, e)
		}
	}
}

func TestP12_2_Refused(t *testing.T) {
	for name, st := range samples.WrongStates() {
		if n, m, e := view.Thick(st); n != 0 || m != 0 || e != api.ErrState {
			t.Errorf("%s: %d, %d, %d", name, n, m, e)
		}
	}
}

func TestP12_3_Refused(t *testing.T) {
	for name, st := range samples.WrongStates() {
		if got, e := view.Picture(st); got != "" || e != api.ErrState {
			t.Errorf("%s: %q, %d", name, got, e)
		}
	}
}

// seenAt: what is seen at the places of one cell's triangles of which paper is there.
func seenAt(x, y int, tris []api.Tri, back bool) []api.Seen {
	var out []api.Seen
	for k, t := range tris {
		out = append(out, api.Seen{At: api.Tri{X: x, Y: y, K: k}, Tri: t, Back: back})
	}
	return out
}

// cell: triangles of one, in this order.
func cell(x, y int, ks ...int) []api.Tri {
	var out []api.Tri
	for _, k := range ks {
		out = append(out, api.Tri{X: x, Y: y, K: k})
	}
	return out
}

func TestP12_1_Known(t *testing.T) {
	turned, _ := stack.Turn(by(t, samples.Full(1, 1)))
	own := cell(0, 0, 0, 1, 2, 3)
	for name, c := range map[string]struct {
		st   api.State
		want []api.Seen
	}{
		"flat":                        {by(t, samples.Full(1, 1)), seenAt(0, 0, own, false)},
		"by Y ahead of X":             {by(t, samples.Full(2, 2)), slices.Concat(seenAt(0, 0, own, false), seenAt(1, 0, cell(1, 0, 0, 1, 2, 3), false), seenAt(0, 1, cell(0, 1, 0, 1, 2, 3), false), seenAt(1, 1, cell(1, 1, 0, 1, 2, 3), false))},
		"over":                        {two(t), seenAt(0, 0, cell(1, 0, 0, 3, 2, 1), true)},
		"under":                       {by(t, samples.Full(2, 1), at(api.Upright, 2, 1, false)), seenAt(0, 0, own, false)},
		"turned over":                 {turned, seenAt(-1, 0, cell(0, 0, 0, 3, 2, 1), true)},
		"over, twice":                 {by(t, samples.Full(3, 1), at(api.Upright, 2, 1, true), at(api.Upright, 0, -1, true)), seenAt(0, 0, cell(2, 0, 0, 1, 2, 3), false)},
		"over what is turned already": {by(t, samples.Full(4, 1), at(api.Upright, 4, 1, true), at(api.Upright, 2, 1, true)), seenAt(0, 0, cell(1, 0, 0, 3, 2, 1), true)},
	} {
		if got, e := view.Top(c.st); e != api.OK || !slices.Equal(got, c.want) {
			t.Errorf("%s: %v, %d, wanted %v", name, got, e, c.want)
		}
	}
}

func TestP12_2_Known(t *testing.T) {
	good := samples.GoodStates()
	for name, c := range map[string]struct {
		st           api.State
		most, places int
	}{
		"one triangle":           {by(t, samples.Masked(1, 1, 4)), 1, 1},
		"flat":                   {by(t, samples.Full(3, 2)), 1, 24},
		"in half":                {two(t), 2, 4},
		"some of it":             {by(t, samples.Full(3, 1), at(api.Upright, 4, 1, true)), 2, 8},
		"three of them":          {by(t, samples.Full(3, 1), at(api.Upright, 2, 1, true), at(api.Upright, 0, -1, true)), 3, 4},
		"a corner":               {by(t, samples.Full(1, 1), at(api.Falling, 2, 1, true)), 2, 2},
		"where most lies first":  {by(t, samples.Full(3, 1), at(api.Upright, 2, -1, true)), 2, 8},
		"all of the greatest":    {good["all on one triangle"], 4 * api.MaxSide * api.MaxSide, 1},
		"as far as it may be":    {good["folded once, farthest"], 2, 8},
		"as far below as it may": {good["folded once, farthest below"], 2, 8},
	} {
		if n, m, e := view.Thick(c.st); n != c.most || m != c.places || e != api.OK {
			t.Errorf("%s: %d, %d, %d, wanted %d, %d", name, n, m, e, c.most, c.places)
		}
	}
}

func TestP12_3_Known(t *testing.T) {
	good := samples.GoodStates()
	turned, _ := stack.Turn(by(t, samples.Masked(2, 1, 15, 12)))
	for name, c := range map[string]struct {
		st   api.State
		want string
	}{
		"one triangle":              {by(t, samples.Masked(1, 1, 4)), "40\n"},
		"a row":                     {by(t, samples.Full(3, 1)), "f0 f0 f0\n"},
		"the highest row first":     {by(t, samples.Masked(1, 3, 4, 15, 1)), "10\nf0\n40\n"},
		"the western cell first":    {by(t, samples.Masked(3, 1, 2, 15, 8)), "20 f0 80\n"},
		"a hole":                    {by(t, samples.Masked(3, 3, 15, 15, 15, 15, 0, 15, 15, 15, 15)), "f0 f0 f0\nf0 .. f0\nf0 f0 f0\n"},
		"empty at the west":         {by(t, samples.Masked(2, 2, 0, 15, 15, 15)), "f0 f0\n.. f0\n"},
		"empty at the east":         {by(t, samples.Masked(2, 2, 15, 15, 15, 0)), "f0 ..\nf0 f0\n"},
		"nothing around":            {by(t, samples.Masked(3, 3, 0, 0, 0, 0, 9, 0, 0, 0, 0)), "90\n"},
		"all letters of a corner":   {by(t, samples.Masked(2, 2, 7, 13, 14, 11)), "e0 b0\n70 d0\n"},
		"over":                      {two(t), "ff\n"},
		"under":                     {by(t, samples.Full(2, 1), at(api.Upright, 2, 1, false)), "f0\n"},
		"a corner, over":            {by(t, samples.Full(1, 1), at(api.Falling, 2, 1, true)), "99\n"},
		"a corner, under":           {by(t, samples.Full(1, 1), at(api.Falling, 2, 1, false)), "90\n"},
		"the other corner":          {by(t, samples.Full(1, 1), at(api.Falling, 2, -1, true)), "66\n"},
		"a corner of many":          {by(t, samples.Full(2, 2), at(api.Falling, 6, 1, true)), "f0 99\nf0 f0\n"},
		"backs of some":             {by(t, samples.Full(2, 1), at(api.Falling, 2, -1, true)), "66 f0\n"},
		"backs at two of four":      {by(t, samples.Full(2, 1), at(api.Rising, 2, 1, true)), "f0 cc\n"},
		"to the west of all":        {by(t, samples.Full(3, 1), at(api.Upright, 2, 1, false)), "ff f0\n"},
		"to the south of all":       {by(t, samples.Full(1, 3), at(api.Level, 2, 1, true)), "ff\nff\n"},
		"turned over":               {turned, "66 ff\n"},
		"far":                       {good["folded once, farthest"], "ff\nff\n"},
		"far below":                 {good["folded once, farthest below"], "ff\nff\n"},
		"all of it on one triangle": {good["all on one triangle"], "11\n"},
	} {
		if got, e := view.Picture(c.st); got != c.want || e != api.OK {
			t.Errorf("%s: %q, %d, wanted %q", name, got, e, c.want)
		}
	}
}

func TestP12_Words(t *testing.T) {
	for name, st := range samples.GoodStates() {
		held(t, name, st)
		if turned, e := stack.Turn(st); e == api.OK {
			held(t, name+", turned over", turned)
		}
	}
	d := die(1)
	for _, st := range drawn(&d, 1000) {
		held(t, "drawn", st)
	}
}

// Paper that goes through itself is seen, too: only P6.1 refuses.
func TestP12_WithClashes(t *testing.T) {
	d := die(2)
	clashing := 0
	for _, st := range drawn(&d, 300) {
		st = samples.CopyState(st)
		for _, s := range st.Stacks {
			if d.below(2) == 0 {
				slices.Reverse(s.Tris)
			}
		}
		if clashes, _ := stack.Clashes(st); len(clashes) > 0 {
			clashing++
		}
		held(t, "reversed", st)
	}
	if clashing < 50 {
		t.Error("only so many:", clashing)
	}
}

// An angle of two arms comes to lie straight, and so wider than a sheet may be.
func TestP12_3_Wide(t *testing.T) {
	mask := slices.Repeat([]int{0}, api.MaxSide*api.MaxSide)
	for i := range api.MaxSide {
		mask[i], mask[i*api.MaxSide+api.MaxSide-1] = 15, 15
	}
	angle := samples.With(samples.Masked(api.MaxSide, api.MaxSide, mask...),
		samples.Crease(api.Valley, 14, 0, 14, 2), samples.Crease(api.Valley, 14, 2, 15, 1), samples.Crease(api.Valley, 15, 1, 16, 0))
	st, e := stack.Lay(angle, []int{0, 2, 1})
	if e != api.OK {
		t.Fatal(e)
	}
	held(t, "an angle", st)
	want := strings.Repeat("f0 ", 6) + "f3" + strings.Repeat(" f0", 7) + "\n"
	if got, e := view.Picture(st); got != want || e != api.OK {
		t.Errorf("%q, %d, wanted %q", got, e, want)
	}
}

// A flat sheet's picture shows its cells.
func TestP12_3_Flat(t *testing.T) {
	d := die(3)
	for range 200 {
		s := samples.Full(1+d.below(api.MaxSide), 1+d.below(api.MaxSide))
		for range d.below(3) { // all rows and columns have paper still
			if s.W > 3 && s.H > 3 {
				s.Mask[(1+d.below(s.H-2))*s.W+1+d.below(s.W-2)] = 0
			}
		}
		st := by(t, s)
		text, _ := sheet.Show(s)
		rows := strings.Split(strings.TrimSuffix(text, "\n"), "\n")[1:]
		picture, _ := view.Picture(st)
		flat := strings.NewReplacer("f0", "f", "..", "0", " ", "").Replace(picture)
		if flat != strings.Join(rows, "\n")+"\n" {
			t.Errorf("%q, of %q", picture, text)
		}
	}
}

// Turned over it is as thick, lies at as many places, and covers what is their image.
func TestP12_TurnedOver(t *testing.T) {
	d := die(4)
	for _, st := range drawn(&d, 300) {
		turned, _ := stack.Turn(st)
		n, m, _ := view.Thick(st)
		if a, b, e := view.Thick(turned); a != n || b != m || e != api.OK {
			t.Errorf("%v: %d, %d, turned over %d, %d", st, n, m, a, b)
		}
		here, _ := view.Top(st)
		there, _ := view.Top(turned)
		covered := map[api.Tri]int{}
		for _, s := range there {
			covered[s.At]++
		}
		for _, s := range here {
			k := []int{0, 3, 2, 1}[s.At.K]
			if covered[api.Tri{X: -1 - s.At.X, Y: s.At.Y, K: k}] != 1 {
				t.Errorf("%v: %v has no image in %v", st, s, there)
			}
		}
	}
}

// Folding, all layers at one time, makes it no thinner, and covers no more places.
func TestP12_Folded(t *testing.T) {
	d := die(5)
	folded := 0
	for _, st := range drawn(&d, 300) {
		next, e := fold.Do(st, at(d.below(4), 2*d.below(5)-2, 1-2*d.below(2), d.below(2) == 0))
		if e != api.OK {
			continue
		}
		folded++
		n, m, _ := view.Thick(st)
		if a, b, _ := view.Thick(next); a < n || b > m {
			t.Errorf("%v: %d, %d, folded %d, %d", st, n, m, a, b)
		}
	}
	if folded < 50 {
		t.Error("only so many:", folded)
	}
}

func TestP12_WhatIsHandedInStays(t *testing.T) {
	for name, st := range samples.GoodStates() {
		roomy, stays := samples.RoomyState(st)
		view.Top(roomy)
		view.Thick(roomy)
		view.Picture(roomy)
		if !stays() {
			t.Errorf("%s: it is changed", name)
		}
	}
}

func TestP12_NewMemory(t *testing.T) {
	st := two(t)
	was := samples.CopyState(st)
	first, _ := view.Top(st)
	again, _ := view.Top(st)
	want := slices.Clone(again)
	for i := range first[:cap(first)] {
		first[:cap(first)][i] = api.Seen{At: api.Tri{X: 99}}
	}
	if !samples.SameState(st, was) {
		t.Error("it is shared with what was handed in")
	}
	if later, _ := view.Top(st); !slices.Equal(again, want) || !slices.Equal(later, want) {
		t.Error("it is shared with another answer")
	}
}
