package stack_test

import (
	"math"
	"slices"
	"testing"

	"pleat/api"
	"pleat/faces"
	"pleat/flat"
	"pleat/grid"
	"pleat/samples"
	"pleat/stack"
)

const m, v = api.Mountain, api.Valley

func TestP6_1_May(t *testing.T) {
	for name, st := range samples.GoodStates() {
		if !stack.May(st) {
			t.Errorf("%s: it may be: %v", name, st)
		}
	}
}

func TestP6_1_MayNot(t *testing.T) {
	for name, st := range samples.WrongStates() {
		if stack.May(st) {
			t.Errorf("%s: it may not be: %v", name, st)
		}
		if l, e := stack.Clashes(st); e != api.ErrState || len(l) != 0 {
			t.Errorf("%s: Clashes: %v, %d", name, l, e)
		}
		if out, e := stack.Turn(st); e != api.ErrState || !samples.SameState(out, api.State{}) {
			t.Errorf("%s: Turn: %v, %d", name, out, e)
		}
	}
}

// How triangles lie in their stacks is free.
func TestP6_1_AnyOrder(t *testing.T) {
	d := die(2)
	for name, st := range samples.GoodStates() {
		for range 3 {
			if st = shuffled(&d, st); !stack.May(st) {
				t.Errorf("%s: it may be: %v", name, st)
			}
		}
	}
}

// All may be brought anywhere, as long as its numbers may be.
func TestP6_1_AnyPlace(t *testing.T) {
	st := samples.Folded(samples.Full(3, 2), api.Fold{Line: api.Line{Way: api.Rising}, Side: 1, Over: true}, api.Fold{Line: api.Line{C: 4}, Side: -1})
	for n := range 8 * 9 {
		sign, other := 1-n%2*2, 1-n/2%2*2
		to := api.Map{A: sign, D: other, E: 2*(n/8%3) - 2, F: 2*(n/24) - 2}
		if n/4%2 == 1 {
			to.A, to.B, to.C, to.D = 0, sign, other, 0
		}
		if !stack.May(samples.Brought(st, to)) {
			t.Errorf("brought by %v it may be", to)
		}
	}
}

func TestP6_2_Example(t *testing.T) {
	s := samples.With(samples.Full(2, 1), samples.Crease(v, 2, 0, 2, 2))
	stay, over := samples.Stay(), api.Map{A: -1, D: 1, E: 4}
	want := api.State{Sheet: s, Maps: []api.Map{stay, stay, stay, stay, over, over, over, over}, Stacks: []api.Stack{
		{At: api.Tri{K: 0}, Tris: []api.Tri{{X: 0, K: 0}, {X: 1, K: 0}}},
		{At: api.Tri{K: 1}, Tris: []api.Tri{{X: 0, K: 1}, {X: 1, K: 3}}},
		{At: api.Tri{K: 2}, Tris: []api.Tri{{X: 0, K: 2}, {X: 1, K: 2}}},
		{At: api.Tri{K: 3}, Tris: []api.Tri{{X: 0, K: 3}, {X: 1, K: 1}}},
	}}
	if got, e := stack.Lay(s, []int{0, 1}); e != api.OK || !samples.SameState(got, want) {
		t.Error(got, e)
	}
	for _, l := range want.Stacks {
		slices.Reverse(l.Tris)
	}
	for _, heights := range [][]int{{1, 0}, {0, -1}, {math.MaxInt, math.MinInt}, {math.MaxInt, math.MaxInt - 1}} {
		if got, e := stack.Lay(s, heights); e != api.OK || !samples.SameState(got, want) {
			t.Error(heights, got, e)
		}
	}
}

// wrongLaid: is it not the sheet's state by these heights?
func wrongLaid(s api.Sheet, heights []int, got api.State) bool {
	maps, _ := flat.Place(s)
	parted, _ := faces.Faces(s)
	var of []int
	for _, x := range samples.Ordered(s) {
		of = append(of, heights[slices.IndexFunc(parted, func(face []api.Tri) bool { return slices.Contains(face, x) })])
	}
	return !samples.SameState(got, samples.Stacked(s, maps, of))
}

func TestP6_2_Many(t *testing.T) {
	d := die(3)
	for _, s := range whole() {
		heights := drawn(&d, s)
		got, e := stack.Lay(s, heights)
		if e != api.OK || wrongLaid(s, heights, got) || !stack.May(got) {
			t.Errorf("%v, %v: %v, %d", s, heights, got, e)
		}
	}
}

func TestP6_2_Refused(t *testing.T) {
	torn := samples.With(samples.Full(1, 1), samples.Crease(v, 0, 0, 1, 1))
	two := samples.With(samples.Full(2, 1), samples.Crease(v, 2, 0, 2, 2))
	four := samples.Creased(samples.Full(1, 1), func(int) bool { return true })
	for name, c := range map[string]struct {
		s       api.Sheet
		heights []int
		want    api.Errno
	}{
		"torn":                    {torn, []int{0}, api.ErrTear},
		"torn, none":              {torn, nil, api.ErrTear},
		"torn, alike":             {torn, []int{1, 1}, api.ErrTear},
		"none":                    {two, nil, api.ErrSize},
		"too few":                 {two, []int{5}, api.ErrSize},
		"too many":                {two, []int{5, 6, 7}, api.ErrSize},
		"too many, alike":         {two, []int{5, 5, 7}, api.ErrSize},
		"too few, alike":          {four, []int{5, 5, 7}, api.ErrSize},
		"alike":                   {two, []int{5, 5}, api.ErrTwice},
		"first and last alike":    {four, []int{5, 6, 7, 5}, api.ErrTwice},
		"others alike":            {four, []int{-5, 6, -9, -9}, api.ErrTwice},
		"greatest alike":          {four, []int{math.MaxInt, 0, math.MaxInt, 1}, api.ErrTwice},
		"unlike":                  {four, []int{-5, 6, 9, -9}, api.OK},
		"one face":                {samples.Full(2, 2), []int{-7}, api.OK},
		"one face, none":          {samples.Full(2, 2), nil, api.ErrSize},
		"one face, for each cell": {samples.Full(2, 2), []int{1, 2, 3, 4}, api.ErrSize},
		"crease where nothing is": {samples.With(samples.Masked(2, 1, 15, 7), samples.Crease(v, 2, 2, 3, 1)), nil, api.ErrState},
	} {
		got, e := stack.Lay(c.s, c.heights)
		if e != c.want || (e == api.OK) == samples.SameState(got, api.State{}) {
			t.Errorf("%s: %v, %d, wanted %d", name, got, e, c.want)
		}
	}
	for name, s := range samples.Wrong() {
		for _, heights := range [][]int{nil, {0}, {1, 1}, {2, 1, 0}} {
			if got, e := stack.Lay(s, heights); e != api.ErrState || !samples.SameState(got, api.State{}) {
				t.Errorf("%s: %v, %d", name, got, e)
			}
		}
	}
}

// cells of 2 and 2, the second row's second one without its southern triangle: its other ones hang on the cell beside it. From the first one the others are laid on it, as the creases have it.
func hanging(creases ...api.Crease) api.Sheet {
	return samples.With(samples.Masked(2, 2, 15, 15, 15, 14), creases...)
}

// crossed: 2 and 2 cells, of which all lie on the first one: kinds of the creases between the western cells, the lower ones, the upper ones, the eastern ones.
func crossed(western, lower, upper, eastern int) api.Sheet {
	return samples.Rays([8]int{0: eastern, 2: upper, 4: western, 6: lower})
}

func TestP6_3_EachKind(t *testing.T) {
	level, upright := samples.Crease(v, 0, 2, 2, 2), samples.Crease(v, 2, 0, 2, 2)
	between, top := samples.Edge(2, 0, 2, 2), samples.Edge(0, 2, 2, 2)
	for name, c := range map[string]struct {
		s     api.Sheet
		cells [4]int // how high each cell's triangles lie
		clash []api.Clash
	}{
		"two rows":                   {s: hanging(level), cells: [4]int{0, 0, 1, 1}},
		"two rows, twisted":          {s: hanging(level), cells: [4]int{0, 1, 1, 0}, clash: []api.Clash{{At: between, Kind: api.Twisted}}},
		"two rows, misfolded":        {s: hanging(level), cells: [4]int{1, 1, 0, 0}, clash: []api.Clash{{At: top, Kind: api.Misfolded}}},
		"two rows, both":             {s: hanging(level), cells: [4]int{1, 0, 0, 1}, clash: []api.Clash{{At: top, Kind: api.Misfolded}, {At: between, Kind: api.Twisted}}},
		"past a fold":                {s: hanging(level, upright), cells: [4]int{0, 1, 2, 0}},
		"through a fold":             {s: hanging(level, upright), cells: [4]int{0, 2, 1, 0}, clash: []api.Clash{{At: between, Kind: api.Pierced}}},
		"through a fold, misfolded":  {s: hanging(level, upright), cells: [4]int{2, 0, 1, 0}, clash: []api.Clash{{At: top, Kind: api.Misfolded}, {At: between, Kind: api.Pierced}, {At: between, Kind: api.Misfolded}}},
		"fold in fold":               {s: crossed(v, v, m, v), cells: [4]int{0, 3, 1, 2}},
		"fold in fold, the other":    {s: crossed(v, v, v, m), cells: [4]int{0, 1, 3, 2}},
		"fold in fold, one is wrong": {s: crossed(v, v, v, v), cells: [4]int{0, 3, 1, 2}, clash: []api.Clash{{At: between, Kind: api.Misfolded}}},
		"fold by fold":               {s: crossed(v, v, m, m), cells: [4]int{0, 1, 2, 3}, clash: []api.Clash{{At: top, Kind: api.Tangled}}},
		"fold through fold":          {s: crossed(v, v, m, m), cells: [4]int{0, 2, 1, 3}, clash: []api.Clash{{At: between, Kind: api.Tangled}}},
		"all kinds are wrong":        {s: crossed(m, m, v, v), cells: [4]int{0, 2, 1, 3}, clash: []api.Clash{{At: top, Kind: api.Misfolded}, {At: between, Kind: api.Tangled}, {At: between, Kind: api.Misfolded}}},
	} {
		maps, e := flat.Place(c.s)
		if e != api.OK {
			t.Fatal(name, e)
		}
		var heights []int
		for _, x := range samples.Ordered(c.s) {
			heights = append(heights, c.cells[2*x.Y+x.X])
		}
		st := samples.Stacked(c.s, maps, heights)
		if got, e := stack.Clashes(st); e != api.OK || !slices.Equal(got, c.clash) || !slices.Equal(wantClashes(st), c.clash) {
			t.Errorf("%s: %v, %d, wanted %v, by the chapter's words %v", name, got, e, c.clash, wantClashes(st))
		}
	}
}

func wrongClashes(st api.State) bool {
	got, e := stack.Clashes(st)
	return e != api.OK || !slices.Equal(got, wantClashes(st))
}

func TestP6_3_Many(t *testing.T) {
	d, seen := die(5), map[int]int{}
	for _, s := range whole() {
		st, _ := stack.Lay(s, drawn(&d, s))
		if len(st.Maps) > 100 {
			continue // the chapter's words, taken one by one, are slow
		}
		for _, x := range []api.State{st, swapped(&d, st), shuffled(&d, st)} {
			if wrongClashes(x) {
				got, e := stack.Clashes(x)
				t.Errorf("%v: %v, %d, wanted %v", x, got, e, wantClashes(x))
			}
			for _, c := range wantClashes(x) {
				seen[c.Kind]++
			}
		}
	}
	for kind := api.Twisted; kind <= api.Misfolded; kind++ {
		if seen[kind] < 100 {
			t.Error("too few of one kind:", kind, seen[kind])
		}
	}
}

func TestP6_3_GoodStates(t *testing.T) {
	for name, st := range samples.GoodStates() {
		if wrongClashes(st) {
			t.Errorf("%s: %v", name, wantClashes(st))
		}
	}
}

// What is folded step by step, all layers at one time, has no clashes; with all kinds changed each fold is misfolded, and nothing else is wrong.
func TestP6_3_Folded(t *testing.T) {
	d := die(6)
	for range 200 {
		var folds []api.Fold
		for range d.below(5) {
			folds = append(folds, api.Fold{Line: api.Line{Way: d.below(4), C: 2*d.below(6) - 2}, Side: 1 - 2*d.below(2), Over: d.below(2) == 0})
		}
		s := samples.Masked(1+d.below(4), 2, samples.Full(4, 2).Mask...)
		s.Mask = s.Mask[:s.W*s.H]
		st := samples.Folded(s, folds...)
		if got, e := stack.Clashes(st); e != api.OK || len(got) != 0 {
			t.Errorf("%v: %v, %d", st, got, e)
		}
		other, folded := samples.CopyState(st), map[api.Edge]int{}
		for i, c := range st.Sheet.Creases {
			other.Sheet.Creases[i].Kind = m + v - c.Kind
			tri := samples.Ordered(s)[slices.IndexFunc(samples.Ordered(s), func(x api.Tri) bool {
				edges, _ := grid.Edges(x)
				return slices.Contains(edges[:], c.E)
			})]
			folded[samples.OntoEdge(mapOf(st, tri), c.E)]++
		}
		got, e := stack.Clashes(other)
		if e != api.OK || len(got) != len(folded) {
			t.Errorf("%v: %v, %d, wanted as many as %v", other, got, e, folded)
		}
		for _, c := range got {
			if folded[c.At] == 0 || c.Kind != api.Misfolded {
				t.Errorf("%v: %v", other, c)
			}
		}
	}
}

// What is wrong is so whichever triangle stays where it is.
func TestP6_3_Anywhere(t *testing.T) {
	d := die(7)
	for n, s := range whole() {
		if n%5 > 0 || len(samples.Tris(s)) > 100 {
			continue
		}
		first, _ := stack.Lay(s, drawn(&d, s))
		st := swapped(&d, first)
		want, _ := stack.Clashes(st)
		back, _ := grid.Back(st.Maps[d.below(len(st.Maps))])
		far, _ := grid.After(back, api.Map{B: 1, C: -1, E: 2 * d.below(9), F: api.MaxPlace - 100})
		for _, to := range []api.Map{back, far} {
			moved := slices.Clone(want)
			for i, c := range want {
				moved[i].At = samples.OntoEdge(to, c.At)
			}
			sortClashes(moved)
			if got, e := stack.Clashes(samples.Brought(st, to)); e != api.OK || !slices.Equal(got, moved) {
				t.Errorf("%v, brought by %v: %v, %d, wanted %v", st, to, got, e, moved)
			}
		}
	}
}

func TestP6_4_Example(t *testing.T) {
	st, _ := stack.Lay(samples.With(samples.Full(2, 1), samples.Crease(v, 2, 0, 2, 2)), []int{0, 1})
	turned, e := stack.Turn(st)
	over, slid := api.Map{A: -1, D: 1}, api.Map{A: 1, D: 1, E: -4}
	want := api.State{Sheet: st.Sheet, Maps: []api.Map{over, over, over, over, slid, slid, slid, slid}, Stacks: []api.Stack{
		{At: api.Tri{X: -1, K: 0}, Tris: []api.Tri{{X: 1, K: 0}, {X: 0, K: 0}}},
		{At: api.Tri{X: -1, K: 1}, Tris: []api.Tri{{X: 1, K: 1}, {X: 0, K: 3}}},
		{At: api.Tri{X: -1, K: 2}, Tris: []api.Tri{{X: 1, K: 2}, {X: 0, K: 2}}},
		{At: api.Tri{X: -1, K: 3}, Tris: []api.Tri{{X: 1, K: 3}, {X: 0, K: 1}}},
	}}
	if e != api.OK || !samples.SameState(turned, want) {
		t.Error(turned, e)
	}
}

// turnable: states of many sorts.
func turnable() []api.State {
	var out []api.State
	for _, st := range samples.GoodStates() {
		out = append(out, st)
	}
	d := die(8)
	for _, s := range whole() {
		st, _ := stack.Lay(s, drawn(&d, s))
		out = append(out, st, swapped(&d, st))
	}
	return out
}

func TestP6_4_Many(t *testing.T) {
	for _, st := range turnable() {
		got, e := stack.Turn(st)
		if want := samples.Brought(st, api.Map{A: -1, D: 1}); e != api.OK || !samples.SameState(got, want) || !stack.May(got) {
			t.Errorf("%v: %v, %d", st, got, e)
		}
	}
}

// Turned twice all is as it was; turned over it has as many clashes.
func TestP6_4_TurnedTwice(t *testing.T) {
	for _, st := range turnable() {
		once, _ := stack.Turn(st)
		if twice, e := stack.Turn(once); e != api.OK || !samples.SameState(twice, st) {
			t.Errorf("%v: %v, %d", st, twice, e)
		}
		a, _ := stack.Clashes(st)
		if b, e := stack.Clashes(once); e != api.OK || len(a) != len(b) {
			t.Errorf("%v: %v, turned %v, %d", st, a, b, e)
		}
	}
}

func TestP6_WhatIsHandedInStays(t *testing.T) {
	for name, st := range samples.GoodStates() {
		roomy, unchanged := samples.RoomyState(st)
		stack.May(roomy)
		stack.Clashes(roomy)
		stack.Turn(roomy)
		if !unchanged() {
			t.Errorf("%s: what was handed in was changed", name)
		}
	}
	s, unchanged := samples.Roomy(crossed(v, v, v, m))
	heights := []int{3, 2, 1, 0, 77, 77}
	if _, e := stack.Lay(s, heights[:4]); e != api.OK || !unchanged() || !slices.Equal(heights, []int{3, 2, 1, 0, 77, 77}) {
		t.Error("what was handed in was changed:", e, heights)
	}
}

// An answer is written over, its spare room too: nothing that was handed in, and no other answer, is touched by it.
func TestP6_NewMemory(t *testing.T) {
	s, unchanged := samples.Roomy(crossed(v, v, v, m))
	heights := []int{3, 2, 1, 0}
	st, _ := stack.Lay(s, heights)
	kept := samples.CopyState(st)
	other, _ := stack.Lay(s, heights)
	samples.Scribble(other)
	if !unchanged() || !samples.SameState(st, kept) || !slices.Equal(heights, []int{3, 2, 1, 0}) {
		t.Error("what Lay answers is not new memory")
	}
	roomy, stays := samples.RoomyState(st)
	turned, _ := stack.Turn(roomy)
	want := samples.CopyState(turned)
	other, _ = stack.Turn(roomy)
	samples.Scribble(other)
	if !stays() || !samples.SameState(turned, want) {
		t.Error("what Turn answers is not new memory")
	}
	l, _ := stack.Clashes(roomy)
	for i := range l[:cap(l)] {
		l[:cap(l)][i] = api.Clash{Kind: 9}
	}
	if again, e := stack.Clashes(roomy); e != api.OK || len(again) == 0 || !slices.Equal(again, wantClashes(st)) {
		t.Error("an answer shares memory with an earlier one:", again, e)
	}
}

// No two lists of one answer share memory: what is added behind one does not come to lie in another.
func TestP6_ListsApart(t *testing.T) {
	st, _ := stack.Lay(samples.Lined(samples.Full(3, 2), v, api.Line{C: 2}), []int{0, 1})
	turned, _ := stack.Turn(st)
	for _, x := range []api.State{st, turned} {
		want := samples.CopyState(x)
		for _, l := range x.Stacks {
			for i := range l.Tris[len(l.Tris):cap(l.Tris)] {
				l.Tris[len(l.Tris):cap(l.Tris)][i] = api.Tri{X: 99}
			}
		}
		if !samples.SameState(x, want) {
			t.Error("stacks share memory")
		}
	}
}
