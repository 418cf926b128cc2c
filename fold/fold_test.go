package fold_test

import (
	"maps"
	"math"
	"slices"
	"testing"

	"pleat/api"
	"pleat/flat"
	"pleat/fold"
	"pleat/grid"
	"pleat/samples"
	"pleat/solve"
	"pleat/stack"
)

func TestP8_1_Flat(t *testing.T) {
	for _, s := range samples.Many() {
		for _, s := range []api.Sheet{samples.With(s), samples.With(s, []api.Crease{}...)} {
			tris := samples.Ordered(s)
			want := samples.Stacked(s, slices.Repeat([]api.Map{samples.Stay()}, len(tris)), make([]int, len(tris)))
			got, e := fold.Flat(s)
			if e != api.OK || !samples.SameState(got, want) || !stack.May(got) {
				t.Errorf("%v: %v, %d", s, got, e)
			}
		}
	}
}

func TestP8_1_Refused(t *testing.T) {
	for _, s := range samples.Plenty() { // most of those with creases tear
		got, e := fold.Flat(s)
		if want := len(s.Creases) > 0; want != (e == api.ErrKind) || want != samples.SameState(got, api.State{}) {
			t.Errorf("%v: %v, %d", s, got, e)
		}
	}
	for name, s := range samples.Wrong() {
		for _, s := range []api.Sheet{s, samples.With(s, append(slices.Clone(s.Creases), samples.Crease(1, 0, 0, 0, 0))...)} {
			if got, e := fold.Flat(s); e != api.ErrState || !samples.SameState(got, api.State{}) {
				t.Errorf("%s: %v, %d", name, got, e)
			}
		}
	}
}

func TestP8_Example(t *testing.T) {
	st, _ := fold.Flat(samples.Full(2, 1))
	f := at(api.Upright, 2, 1, true)
	want, _ := stack.Lay(samples.With(samples.Full(2, 1), samples.Crease(v, 2, 0, 2, 2)), []int{0, 1})
	if got, e := fold.Do(st, f); e != api.OK || !samples.SameState(got, want) {
		t.Error(got, e)
	}
	if got, e := fold.Moves(st, f); e != api.OK || !slices.Equal(got, []api.Tri{{X: 1, K: 0}, {X: 1, K: 1}, {X: 1, K: 2}, {X: 1, K: 3}}) {
		t.Error(got, e)
	}
}

// wrong: is what a fold answers not what it should be?
func wrong(st api.State, f api.Fold) bool {
	out, code, moves, other := wanted(st, f)
	got, e := fold.Do(st, f)
	tris, g := fold.Moves(st, f)
	return e != code || !samples.SameState(got, out) || g != other || !slices.Equal(tris, moves)
}

func TestP8_Many(t *testing.T) {
	d, codes := die(3), map[api.Errno]int{}
	part := 0
	for _, st := range drawn(&d, 400) {
		for range 10 {
			f := drawnFold(&d, st)
			if wrong(st, f) {
				out, code, moves, _ := wanted(st, f)
				got, e := fold.Do(st, f)
				tris, g := fold.Moves(st, f)
				t.Fatalf("%v, %v: %v, %d, %v, %d, wanted %v, %d, %v", st, f, got, e, tris, g, out, code, moves)
			}
			_, e := fold.Do(st, f)
			codes[e]++
			moves, _ := fold.Moves(st, f)
			if all, _ := fold.Moves(st, at(f.Line.Way, f.Line.C, f.Side, f.Over)); 0 < len(moves) && len(moves) < len(all) {
				part++
			}
		}
	}
	for _, e := range []api.Errno{api.OK, api.ErrRange, api.ErrNone, api.ErrOrder} {
		if codes[e] < 100 {
			t.Error("too few of one sort:", codes)
		}
	}
	if part < 60 {
		t.Error("too few that leave layers behind:", part)
	}
}

// States without clashes that were not folded step by step.
func TestP8_Laid(t *testing.T) {
	d, done := die(4), 0
	for _, s := range samples.Plenty() {
		st, e := solve.Solve(s)
		if e != api.OK || len(s.Creases) == 0 {
			continue
		}
		f := drawnFold(&d, st)
		if wrong(st, f) {
			got, e := fold.Do(st, f)
			t.Errorf("%v, %v: %v, %d", st, f, got, e)
		}
		if _, e := fold.Do(st, f); e == api.OK {
			done++
		}
	}
	if done < 30 {
		t.Error("only so many:", done)
	}
}

// by folds, one behind the other; all of them go.
func by(t *testing.T, s api.Sheet, folds ...api.Fold) api.State {
	t.Helper()
	st, _ := fold.Flat(s)
	for _, f := range folds {
		next, e := fold.Do(st, f)
		if e != api.OK {
			t.Fatal(f, e)
		}
		st = next
	}
	return st
}

// Of a strip of three all lie on the first one: 0, 2, 1 from below, both ends in the same fold's way; or 0, 1, 2, to and fro.
func rolled(t *testing.T) api.State {
	return by(t, samples.Full(3, 1), at(api.Upright, 4, 1, true), at(api.Upright, 2, 1, true))
}

func zigzag(t *testing.T) api.State {
	return by(t, samples.Full(3, 1), at(api.Upright, 2, 1, true), at(api.Upright, 0, -1, true))
}

// asked: a fold of a state, and the code that comes of it.
type asked struct {
	st   api.State
	f    api.Fold
	want api.Errno
}

func two(t *testing.T) api.State { return by(t, samples.Full(2, 1), at(api.Upright, 2, 1, true)) }

var good, east, west = at(api.Falling, 2, 1, true), api.Tri{K: 1}, api.Tri{K: 3}

// ranges: lines, sides and layers that may be, and such that may not.
func ranges(t *testing.T) map[string]asked {
	st := two(t)
	return map[string]asked{
		"goes":                              {st, good, api.OK},
		"way 4":                             {st, at(4, 2, 1, true), api.ErrRange},
		"way below 0":                       {st, at(-1, 2, 1, true), api.ErrRange},
		"odd":                               {st, at(2, 1, 1, true), api.ErrRange},
		"odd below 0":                       {st, at(0, -1, 1, true), api.ErrRange},
		"too far":                           {st, at(0, api.MaxPlace+2, 1, true), api.ErrRange},
		"too far below":                     {st, at(1, -api.MaxPlace-2, 1, true), api.ErrRange},
		"farthest, nothing moves":           {st, at(2, api.MaxPlace, 1, true), api.ErrNone},
		"farthest below, all moves":         {st, at(3, -api.MaxPlace, 1, true), api.ErrNone},
		"least numbers":                     {st, layers(at(math.MinInt, math.MinInt, math.MinInt, true), math.MinInt, api.Tri{X: math.MinInt, Y: math.MinInt, K: math.MinInt}), api.ErrRange},
		"no side":                           {st, at(2, 2, 0, true), api.ErrRange},
		"side 2":                            {st, at(2, 2, 2, true), api.ErrRange},
		"side -2":                           {st, at(2, 2, -2, false), api.ErrRange},
		"layers below 0":                    {st, layers(good, -1, east), api.ErrRange},
		"layers below 0, nothing moves":     {st, layers(at(0, 8, 1, true), -1, east), api.ErrRange},
		"no layers, no place":               {st, layers(good, 0, api.Tri{X: 5, K: 9}), api.OK},
		"one layer":                         {st, layers(good, 1, east), api.OK},
		"two layers":                        {st, layers(good, 2, east), api.OK},
		"three layers, of two":              {st, layers(good, 3, east), api.ErrRange},
		"as many layers as numbers go":      {st, layers(good, math.MaxInt, east), api.ErrRange},
		"on the other side":                 {st, layers(good, 1, west), api.ErrRange},
		"where nothing lies":                {st, layers(good, 1, api.Tri{X: 1, K: 3}), api.ErrRange},
		"where nothing lies, nothing moves": {st, layers(at(0, 8, 1, true), 1, api.Tri{X: 5}), api.ErrRange},
		"where nothing can lie":             {st, layers(good, 1, api.Tri{K: 4}), api.ErrRange},
		"too far to lie":                    {st, layers(good, 1, api.Tri{X: math.MaxInt, Y: math.MaxInt, K: 1}), api.ErrRange},
	}
}

// orders: what is in the way of a fold, or not.
func orders(t *testing.T) map[string]asked {
	st := two(t)
	clash := samples.CopyState(st)
	slices.Reverse(clash.Stacks[0].Tris)
	torn := samples.CopyState(clash)
	torn.Maps = torn.Maps[1:]
	return map[string]asked{
		"no state":                          {api.State{}, good, api.ErrState},
		"may not be, clashes, no way":       {torn, at(9, 1, 0, true), api.ErrState},
		"clashes":                           {clash, good, api.ErrOrder},
		"clashes, no way":                   {clash, at(9, 1, 0, true), api.ErrOrder},
		"clashes, nothing moves":            {clash, at(0, 8, 1, true), api.ErrOrder},
		"nothing moves":                     {st, at(0, 2, 1, true), api.ErrNone},
		"all moves":                         {st, at(0, 2, -1, true), api.ErrNone},
		"all moves, all layers of a place":  {st, layers(at(0, 2, -1, true), 2, east), api.ErrNone},
		"all moves, joined to one layer":    {st, layers(at(0, 4, -1, true), 1, east), api.ErrNone},
		"a flap, at its own end":            {st, layers(at(2, 2, -1, true), 1, west), api.OK},
		"it would unfold":                   {st, layers(at(0, 2, -1, true), 1, east), api.ErrOrder},
		"it would unfold, under":            {st, layers(at(0, 2, -1, false), 1, west), api.ErrOrder},
		"it would unfold, at the other end": {zigzag(t), layers(at(0, 0, 1, true), 1, west), api.ErrOrder},
		"something lies on it":              {rolled(t), layers(good, 1, east), api.ErrOrder},
		"that is held, too":                 {rolled(t), layers(good, 2, east), api.OK},
		"something lies under it":           {rolled(t), layers(at(2, 2, 1, false), 1, east), api.ErrOrder},
		"uppermost":                         {zigzag(t), layers(good, 1, east), api.OK},
		"uppermost two":                     {zigzag(t), layers(at(2, 2, -1, true), 1, west), api.OK},
		"lowest two":                        {zigzag(t), layers(at(2, 2, 1, false), 1, east), api.OK},
	}
}

func TestP8_2_Refused(t *testing.T) {
	cases := ranges(t)
	maps.Copy(cases, orders(t))
	for name, c := range cases {
		got, e := fold.Do(c.st, c.f)
		if e != c.want || (e == api.OK) == samples.SameState(got, api.State{}) || wrong(c.st, c.f) {
			t.Errorf("%s: Do: %v, %d, wanted %d", name, got, e, c.want)
		}
		if tris, e := fold.Moves(c.st, c.f); e != c.want || (e == api.OK) != (len(tris) > 0) {
			t.Errorf("%s: Moves: %v, %d, wanted %d", name, tris, e, c.want)
		}
	}
	for name, st := range samples.WrongStates() {
		for _, f := range []api.Fold{{}, good, at(9, 1, 0, true)} {
			got, e := fold.Do(st, f)
			tris, g := fold.Moves(st, f)
			if e != api.ErrState || g != api.ErrState || !samples.SameState(got, api.State{}) || len(tris) > 0 {
				t.Errorf("%s: %v, %d, %v, %d", name, got, e, tris, g)
			}
		}
	}
}

// States that may be, with clashes and without, at the edges of what may be too.
func TestP8_2_GoodStates(t *testing.T) {
	for name, st := range samples.GoodStates() {
		if len(st.Maps) > 100 {
			continue // the chapter's words, taken one by one, are slow
		}
		for _, f := range []api.Fold{at(0, 2, 1, true), at(1, 2, -1, false), at(2, 2, 1, false), layers(at(3, 0, 1, true), 1, st.Stacks[0].At), layers(at(2, 2, -1, true), 1, st.Stacks[0].At)} {
			if wrong(st, f) {
				got, e := fold.Do(st, f)
				t.Errorf("%s, %v: %v, %d", name, f, got, e)
			}
		}
	}
}

// What moves, of a strip of three that lies in one place.
func TestP8_2_Moves(t *testing.T) {
	cell := func(x int, ks ...int) []api.Tri {
		var out []api.Tri
		for _, k := range ks {
			out = append(out, api.Tri{X: x, K: k})
		}
		return out
	}
	for name, c := range map[string]struct {
		st   api.State
		f    api.Fold
		want []api.Tri
	}{
		"all layers":        {zigzag(t), at(2, 2, 1, true), slices.Concat(cell(0, 1, 2), cell(1, 2, 3), cell(2, 1, 2))},
		"one from above":    {zigzag(t), layers(at(2, 2, 1, true), 1, api.Tri{K: 2}), cell(2, 1, 2)},
		"two from above":    {zigzag(t), layers(at(2, 2, 1, true), 2, api.Tri{K: 2}), slices.Concat(cell(0, 1, 2), cell(1, 2, 3), cell(2, 1, 2))},
		"one from below":    {zigzag(t), layers(at(2, 2, 1, false), 1, api.Tri{K: 2}), slices.Concat(cell(0, 1, 2), cell(1, 2, 3))},
		"two from below":    {zigzag(t), layers(at(2, 2, 1, false), 2, api.Tri{K: 2}), slices.Concat(cell(0, 1, 2), cell(1, 2, 3))},
		"three from below":  {zigzag(t), layers(at(2, 2, 1, false), 3, api.Tri{K: 2}), slices.Concat(cell(0, 1, 2), cell(1, 2, 3), cell(2, 1, 2))},
		"other side":        {zigzag(t), layers(at(2, 2, -1, true), 1, api.Tri{K: 3}), slices.Concat(cell(1, 0, 1), cell(2, 0, 3))},
		"other side, below": {zigzag(t), layers(at(2, 2, -1, false), 1, api.Tri{K: 3}), cell(0, 0, 3)},
	} {
		if got, e := fold.Moves(c.st, c.f); e != api.OK || !slices.Equal(got, c.want) {
			t.Errorf("%s: %v, %d, wanted %v", name, got, e, c.want)
		}
	}
}

// The order of what comes together, and the kinds of creases, of a strip.
func TestP8_3_Known(t *testing.T) {
	crease := func(kinds ...int) []api.Crease {
		var out []api.Crease
		for i, kind := range kinds {
			out = append(out, samples.Crease(kind, 2*i+2, 0, 2*i+2, 2))
		}
		return out
	}
	for name, c := range map[string]struct {
		cells   int
		folds   []api.Fold
		creases []api.Crease
		order   []int // of the cells at the westernmost place, from below
	}{
		"over":                     {2, []api.Fold{at(0, 2, 1, true)}, crease(v), []int{0, 1}},
		"under":                    {2, []api.Fold{at(0, 2, 1, false)}, crease(m), []int{1, 0}},
		"the first one over":       {2, []api.Fold{at(0, 2, -1, true)}, crease(v), []int{1, 0}},
		"the first one under":      {2, []api.Fold{at(0, 2, -1, false)}, crease(m), []int{0, 1}},
		"rolled up":                {3, []api.Fold{at(0, 4, 1, true), at(0, 2, 1, true)}, crease(v, v), []int{0, 2, 1}},
		"to and fro":               {3, []api.Fold{at(0, 4, 1, true), at(0, 2, 1, false)}, crease(m, v), []int{2, 1, 0}},
		"back under what came":     {3, []api.Fold{at(0, 2, 1, true), at(0, 0, -1, false)}, crease(v, v), []int{2, 0, 1}},
		"back over it":             {3, []api.Fold{at(0, 2, 1, true), at(0, 0, -1, true)}, crease(v, m), []int{0, 1, 2}},
		"in half, twice":           {4, []api.Fold{at(0, 4, 1, true), at(0, 2, 1, true)}, crease(v, v, m), []int{0, 3, 2, 1}},
		"in half, over, under":     {4, []api.Fold{at(0, 4, 1, true), at(0, 2, 1, false)}, crease(m, v, v), []int{2, 1, 0, 3}},
		"in half, one layer":       {4, []api.Fold{at(0, 4, 1, true), layers(at(0, 2, 1, true), 1, api.Tri{X: 1})}, crease(v, v, m), []int{0, 3, 2, 1}}, // the other one is joined to it
		"in half, the flap back":   {4, []api.Fold{at(0, 4, 1, true), layers(at(0, 2, -1, true), 1, api.Tri{X: 0})}, []api.Crease{samples.Crease(v, 4, 0, 4, 2), samples.Crease(m, 6, 0, 6, 2)}, []int{0}},
		"in half, the flap below":  {4, []api.Fold{at(0, 4, 1, true), layers(at(0, 2, -1, false), 1, api.Tri{X: 0})}, []api.Crease{samples.Crease(m, 2, 0, 2, 2), samples.Crease(v, 4, 0, 4, 2)}, []int{3}},
		"in half, both flaps over": {4, []api.Fold{at(0, 4, 1, true), at(0, 2, -1, true)}, crease(v, v, m), []int{1, 2, 3, 0}},
	} {
		st, code := fold.Flat(samples.Full(c.cells, 1))
		for _, f := range c.folds {
			st, code = fold.Do(st, f)
		}
		var order []int
		if code == api.OK {
			for _, x := range st.Stacks[0].Tris {
				order = append(order, x.X)
			}
		}
		if code != api.OK || !slices.Equal(st.Sheet.Creases, c.creases) || !slices.Equal(order, c.order) {
			t.Errorf("%s: %v, %d, wanted %v, %v", name, st, code, c.creases, c.order)
		}
	}
}

// Far out the mirror's own numbers are too great, though those of the images are not.
func TestP8_3_Far(t *testing.T) {
	const far = api.MaxPlace
	codes := map[api.Errno]int{}
	st, _ := fold.Flat(samples.Full(3, 2))
	folded := by(t, samples.Full(3, 2), at(api.Upright, 4, 1, true))
	for n := range 4 * 4 * 5 * 5 {
		turn := [4]api.Map{{A: 1, D: 1}, {A: -1, D: 1}, {B: 1, C: -1}, {B: -1, C: -1}}[n%4]
		places := [5]int{far, far - 6, far / 2, -far + 8, -far}
		turn.E, turn.F = places[n/16%5], places[n/80]
		for _, st := range []api.State{samples.Brought(st, turn), samples.Brought(folded, turn)} {
			if !stack.May(st) {
				continue // it came too far
			}
			p := samples.Onto(st.Maps[0], api.Point{X: 2, Y: 2}) // an inner point of the paper, or one at its rim
			f := at(n/4%4, 0, 1-n%2*2, n%3 == 0)
			f.Line.C = above(f.Line, p)
			_, e := fold.Do(st, f)
			codes[e]++
			if wrong(st, f) {
				_, code, _, _ := wanted(st, f)
				t.Errorf("%v, %v: %d, wanted %d", st, f, e, code)
			}
		}
	}
	if codes[api.OK] < 50 || codes[api.ErrSize] < 50 || codes[api.ErrRange] < 50 {
		t.Error("too few of one sort:", codes)
	}
}

func TestP8_3_FarKnown(t *testing.T) {
	const far = api.MaxPlace
	flat, _ := fold.Flat(samples.Full(2, 1))
	for name, c := range map[string]struct {
		to   api.Map
		f    api.Fold
		want api.Errno
	}{
		"as far as it goes":     {api.Map{A: 1, D: 1, E: far - 4}, at(0, far-2, -1, true), api.OK},
		"the other one too far": {api.Map{A: 1, D: 1, E: far - 2}, at(0, far, 1, true), api.ErrSize},
		"below":                 {api.Map{A: 1, D: 1, E: -far}, at(0, -far+2, 1, true), api.OK},
		"turned, too far":       {api.Map{A: -1, D: 1, E: -far + 2}, at(0, -far, 1, false), api.ErrSize},
		"northward":             {api.Map{B: -1, C: 1, E: 2, F: far - 4}, at(1, far-2, 1, true), api.OK},
		"northward, too far":    {api.Map{B: -1, C: 1, E: 2, F: far - 2}, at(1, far, 1, true), api.ErrSize},
	} {
		st := samples.Brought(flat, c.to)
		got, e := fold.Do(st, c.f)
		if e != c.want || e != api.OK && !samples.SameState(got, api.State{}) || wrong(st, c.f) {
			t.Errorf("%s: %v, %d, wanted %d", name, got, e, c.want)
		}
		if tris, e := fold.Moves(st, c.f); e != api.OK || len(tris) != 4 {
			t.Errorf("%s: Moves: %v, %d", name, tris, e)
		}
	}
}

// distances of all triangles from one another, as they lie: between three times their means.
func distances(st api.State) []int {
	var means []api.Point
	for i, x := range samples.Ordered(st.Sheet) {
		place, _ := grid.Move(st.Maps[i], x)
		corners, _ := grid.Corners(place)
		means = append(means, api.Point{X: corners[0].X + corners[1].X + corners[2].X, Y: corners[0].Y + corners[1].Y + corners[2].Y})
	}
	var out []int
	for _, p := range means {
		for _, q := range means {
			out = append(out, (p.X-q.X)*(p.X-q.X)+(p.Y-q.Y)*(p.Y-q.Y))
		}
	}
	return out
}

// All layers at one time can always be folded, and nothing comes to lie farther apart.
func TestP8_AllLayers(t *testing.T) {
	d, folded := die(9), 0
	for _, st := range drawn(&d, 300) {
		f := drawnFold(&d, st)
		f.Layers = 0
		next, e := fold.Do(st, f)
		tris, _ := fold.Moves(st, f)
		if e == api.ErrNone {
			continue
		}
		folded++
		if e != api.OK || len(tris) == 0 || len(tris) == len(st.Maps) {
			t.Errorf("%v, %v: %d, %v", st, f, e, tris)
		}
		before := distances(st)
		for i, far := range distances(next) {
			if far > before[i] {
				t.Fatalf("%v, %v: something comes to lie farther apart", st, f)
			}
		}
	}
	if folded < 50 {
		t.Error("only so many:", folded)
	}
}

// The greatest sheet, folded as small as it gets.
func TestP8_Greatest(t *testing.T) {
	st := by(t, samples.Full(api.MaxSide, api.MaxSide), at(0, 8, 1, true), at(1, 8, 1, false), at(0, 4, -1, true), at(1, 4, -1, true), at(0, 6, 1, false), at(1, 6, -1, true), at(2, 12, 1, true), at(3, -2, 1, true))
	if len(st.Stacks) != 1 || len(st.Stacks[0].Tris) != 4*api.MaxSide*api.MaxSide {
		t.Error(len(st.Stacks))
	}
}

// Each step's state may be and has no clashes, its sheet has no troubles, and an order of it that goes.
func TestP8_EachStep(t *testing.T) {
	d, solved := die(5), 0
	for _, st := range drawn(&d, 500) {
		clashes, e := stack.Clashes(st)
		if e != api.OK || len(clashes) > 0 {
			t.Errorf("%v: %v, %d", st, clashes, e)
		}
		troubles, e := flat.Troubles(st.Sheet)
		if e != api.OK || len(troubles) > 0 {
			t.Errorf("%v: %v, %d", st, troubles, e)
		}
		n, e := solve.Count(st.Sheet)
		if e == api.ErrSize {
			continue
		}
		if e != api.OK || n == 0 {
			t.Errorf("%v: %d, %d", st, n, e)
		}
		if len(st.Sheet.Creases) > 0 {
			solved++
		}
	}
	if solved < 50 {
		t.Error("only so many:", solved)
	}
}

// What is folded over, and turned over, is as what is folded under when it was turned over already.
func TestP8_TurnedOver(t *testing.T) {
	d, same := die(6), 0
	for _, st := range drawn(&d, 300) {
		f := drawnFold(&d, st)
		done, e := fold.Do(st, f)
		turned, _ := stack.Turn(st)
		f.Over, f.Line, f.Side = !f.Over, turnedLine(f.Line), turnedSide(f)
		mirror, _ := grid.Mirror(api.Line{})
		f.At, _ = grid.Move(mirror, f.At)
		want, _ := stack.Turn(done)
		if got, g := fold.Do(turned, f); g != e || !samples.SameState(got, want) {
			t.Errorf("%v, %v: %v, %d, wanted %v, %d", st, f, got, g, want, e)
		}
		if e == api.OK {
			same++
		}
	}
	if same < 50 {
		t.Error("only so many:", same)
	}
}

// turnedLine: a line's mirror image at X = 0: X + Y = C comes to Y - X = C.
func turnedLine(l api.Line) api.Line {
	if l.Way == api.Level {
		return l
	}
	return api.Line{Way: [4]int{api.Upright, api.Level, api.Rising, api.Falling}[l.Way], C: -l.C}
}

func turnedSide(f api.Fold) int {
	if f.Line.Way == api.Level {
		return f.Side
	}
	return -f.Side
}

func TestP8_WhatIsHandedInStays(t *testing.T) {
	d := die(7)
	for _, st := range drawn(&d, 150) {
		f := drawnFold(&d, st)
		roomy, unchanged := samples.RoomyState(st)
		got, e := fold.Do(roomy, f)
		tris, g := fold.Moves(roomy, f)
		if !unchanged() {
			t.Errorf("%v, %v: what was handed in was changed", st, f)
		}
		if other, code := fold.Do(st, f); code != e || !samples.SameState(other, got) {
			t.Errorf("%v, %v: %v, %d, with spare room %v, %d", st, f, other, code, got, e)
		}
		if other, code := fold.Moves(st, f); code != g || !slices.Equal(other, tris) {
			t.Errorf("%v, %v: %v, %d, with spare room %v, %d", st, f, other, code, tris, g)
		}
	}
	for _, s := range samples.Plenty() {
		roomy, unchanged := samples.Roomy(s)
		if fold.Flat(roomy); !unchanged() {
			t.Errorf("%v: what was handed in was changed", s)
		}
	}
}

// An answer is written over, its spare room too: nothing that was handed in, and no other answer, is touched by it.
func TestP8_NewMemory(t *testing.T) {
	s, unchanged := samples.Roomy(samples.Full(3, 2))
	st, _ := fold.Flat(s)
	kept := samples.CopyState(st)
	other, _ := fold.Flat(s)
	samples.Scribble(other)
	if !unchanged() || !samples.SameState(st, kept) {
		t.Error("what Flat answers is not new memory")
	}
	first, f := by(t, samples.Full(3, 2), at(api.Upright, 4, 1, true)), at(api.Rising, 0, 1, false)
	roomy, stays := samples.RoomyState(first)
	done, _ := fold.Do(roomy, f)
	kept = samples.CopyState(done)
	other, _ = fold.Do(roomy, f)
	samples.Scribble(other)
	if !stays() || !samples.SameState(done, kept) {
		t.Error("what Do answers is not new memory")
	}
	tris, _ := fold.Moves(roomy, f)
	want := slices.Clone(tris)
	for i := range tris[:cap(tris)] {
		tris[:cap(tris)][i] = api.Tri{X: 99}
	}
	if again, e := fold.Moves(roomy, f); e != api.OK || !slices.Equal(again, want) || !stays() {
		t.Error("what Moves answers is not new memory:", again, e)
	}
}

// No two lists of one answer share memory: what is added behind one does not come to lie in another.
func TestP8_ListsApart(t *testing.T) {
	flat, _ := fold.Flat(samples.Full(3, 2))
	for _, st := range []api.State{flat, rolled(t), zigzag(t)} {
		want := samples.CopyState(st)
		for _, l := range st.Stacks {
			spare := l.Tris[len(l.Tris):cap(l.Tris)]
			for i := range spare {
				spare[i] = api.Tri{X: 99}
			}
		}
		if !samples.SameState(st, want) {
			t.Error("stacks share memory")
		}
	}
}
