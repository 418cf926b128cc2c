package cut_test

import (
	"math"
	"slices"
	"testing"

	"pleat/api"
	"pleat/cut"
	"pleat/fold"
	"pleat/grid"
	"pleat/samples"
	"pleat/stack"
)

// by folds, one behind the other; all of them go.
func by(t *testing.T, s api.Sheet, folds ...api.Fold) api.State {
	t.Helper()
	st, _ := fold.Flat(s)
	for _, f := range folds {
		next, e := fold.Do(st, f)
		if e != api.OK {
			t.Fatal(f, e)
		}
		st = next
	}
	return st
}

// cells of a strip, whole.
func cells(xs ...int) []api.Tri {
	var out []api.Tri
	for _, x := range xs {
		for k := range 4 {
			out = append(out, api.Tri{X: x, K: k})
		}
	}
	return out
}

// cell: some triangles of one.
func cell(x int, ks ...int) []api.Tri {
	var out []api.Tri
	for _, k := range ks {
		out = append(out, api.Tri{X: x, K: k})
	}
	return out
}

func two(t *testing.T) api.State { return by(t, samples.Full(2, 1), at(api.Upright, 2, 1, true)) }

func TestP11_Example(t *testing.T) {
	want := [][]api.Tri{cell(0, 0, 3), slices.Concat(cell(0, 1, 2), cell(1, 2, 3)), cell(1, 0, 1)}
	if got, e := cut.Pieces(two(t), api.Line{Way: api.Falling, C: 2}); e != api.OK || !same(got, want) {
		t.Error(got, e)
	}
	laid, _ := stack.Lay(samples.With(samples.Full(2, 1), samples.Crease(api.Valley, 2, 0, 2, 2)), []int{0, 1})
	if got, e := cut.Pieces(laid, api.Line{Way: api.Falling, C: 2}); e != api.OK || !same(got, want) {
		t.Error(got, e)
	}
}

// What is folded at the line stays together; what goes on there does not.
func TestP11_1_Known(t *testing.T) {
	upright := func(c int) api.Line { return api.Line{C: c} }
	half := at(api.Upright, 4, 1, true)
	flap := api.Fold{Line: upright(2), Side: -1, Over: true, Layers: 1} // the uppermost one at the western end
	zigzag := []api.Fold{at(api.Upright, 2, 1, true), at(api.Upright, 0, -1, true)}
	for name, c := range map[string]struct {
		wide  int
		folds []api.Fold
		line  api.Line
		want  [][]api.Tri
	}{
		"flat, between two cells":       {2, nil, upright(2), [][]api.Tri{cells(0), cells(1)}},
		"flat, at the rim":              {2, nil, upright(4), [][]api.Tri{cells(0, 1)}},
		"flat, at the other rim":        {2, nil, upright(0), [][]api.Tri{cells(0, 1)}},
		"flat, at the lower rim":        {2, nil, api.Line{Way: api.Level}, [][]api.Tri{cells(0, 1)}},
		"flat, rising":                  {1, nil, api.Line{Way: api.Rising}, [][]api.Tri{cell(0, 0, 1), cell(0, 2, 3)}},
		"flat, falling":                 {1, nil, api.Line{Way: api.Falling, C: 2}, [][]api.Tri{cell(0, 0, 3), cell(0, 1, 2)}},
		"flat, past all":                {2, nil, upright(-20), [][]api.Tri{cells(0, 1)}},
		"flat, as far as a line may be": {2, nil, upright(api.MaxPlace), [][]api.Tri{cells(0, 1)}},
		"at the fold":                   {2, []api.Fold{at(0, 2, 1, true)}, upright(2), [][]api.Tri{cells(0, 1)}},
		"at the fold of three":          {3, []api.Fold{half}, upright(4), [][]api.Tri{cells(0, 1, 2)}},
		"beside the fold":               {3, []api.Fold{half}, upright(2), [][]api.Tri{cells(0), cells(1, 2)}},
		"to and fro, at one end":        {3, zigzag, upright(2), [][]api.Tri{cells(0, 1, 2)}},
		"to and fro, at the other end":  {3, zigzag, upright(0), [][]api.Tri{cells(0, 1, 2)}},
		"in half, both layers":          {4, []api.Fold{half}, upright(2), [][]api.Tri{cells(0), cells(1, 2), cells(3)}},
		"one folded there, one goes on": {4, []api.Fold{half, flap}, upright(2), [][]api.Tri{cells(0), cells(1, 2, 3)}},
		"in half, rising":               {2, []api.Fold{at(0, 2, 1, true)}, api.Line{Way: api.Rising}, [][]api.Tri{slices.Concat(cell(0, 0, 1), cell(1, 0, 3)), cell(0, 2, 3), cell(1, 1, 2)}},
	} {
		if got, e := cut.Pieces(by(t, samples.Full(c.wide, 1), c.folds...), c.line); e != api.OK || !same(got, c.want) {
			t.Errorf("%s: %v, %d, wanted %v", name, got, e, c.want)
		}
	}
}

// Pieces come as their first triangles do, whichever side they lie on and however great they are.
func TestP11_1_Order(t *testing.T) {
	for name, c := range map[string]struct {
		sheet api.Sheet
		line  api.Line
		want  []int
	}{
		"a ring, upright":             {samples.Masked(3, 3, 15, 15, 15, 15, 0, 15, 15, 15, 15), api.Line{C: 2}, []int{12, 20}},
		"a ring, level":               {samples.Masked(3, 3, 15, 15, 15, 15, 0, 15, 15, 15, 15), api.Line{Way: api.Level, C: 4}, []int{20, 12}},
		"a ring, falling":             {samples.Masked(3, 3, 15, 15, 15, 15, 0, 15, 15, 15, 15), api.Line{Way: api.Falling, C: 4}, []int{8, 24}},
		"a ring, rising":              {samples.Masked(3, 3, 15, 15, 15, 15, 0, 15, 15, 15, 15), api.Line{Way: api.Rising, C: -2}, []int{24, 8}},
		"three teeth above":           {samples.Masked(5, 2, 15, 15, 15, 15, 15, 15, 0, 7, 0, 1), api.Line{Way: api.Level, C: 2}, []int{20, 4, 3, 1}},
		"three teeth below":           {samples.Masked(5, 2, 4, 0, 14, 0, 15, 15, 15, 15, 15, 15), api.Line{Way: api.Level, C: 2}, []int{1, 3, 4, 20}},
		"three teeth, rows by turns":  {samples.Masked(2, 5, 15, 15, 0, 15, 14, 15, 0, 15, 15, 15), api.Line{C: 2}, []int{4, 20, 3, 4}},
		"only a middle in common":     {samples.Masked(1, 1, 7), api.Line{Way: api.Rising}, []int{2, 1}},
		"what lacks is not come over": {samples.Masked(1, 1, 7), api.Line{Way: api.Falling, C: 2}, []int{1, 2}},
	} {
		st := by(t, c.sheet)
		got, e := cut.Pieces(st, c.line)
		model, _ := wantedPieces(st, c.line)
		if e != api.OK || !slices.Equal(sizes(got), c.want) || !same(got, model) {
			t.Errorf("%s: %v, %d, wanted %v", name, got, e, model)
		}
	}
}

func TestP11_1_Refused(t *testing.T) {
	for name, c := range map[string]struct {
		line api.Line
		want api.Errno
	}{
		"goes":                {api.Line{Way: api.Falling, C: 2}, api.OK},
		"greatest way":        {api.Line{Way: api.Rising, C: 2}, api.OK},
		"way 4":               {api.Line{Way: 4, C: 2}, api.ErrRange},
		"way below 0":         {api.Line{Way: -1, C: 2}, api.ErrRange},
		"odd":                 {api.Line{Way: api.Falling, C: 1}, api.ErrRange},
		"odd below 0":         {api.Line{C: -1}, api.ErrRange},
		"odd, past all paper": {api.Line{C: 101}, api.ErrRange},
		"farthest":            {api.Line{Way: api.Level, C: api.MaxPlace}, api.OK},
		"farthest below":      {api.Line{Way: api.Rising, C: -api.MaxPlace}, api.OK},
		"too far":             {api.Line{Way: api.Level, C: api.MaxPlace + 2}, api.ErrRange},
		"too far below":       {api.Line{C: -api.MaxPlace - 2}, api.ErrRange},
		"least numbers":       {api.Line{Way: math.MinInt, C: math.MinInt}, api.ErrRange},
		"least number":        {api.Line{C: math.MinInt}, api.ErrRange},
		"greatest number":     {api.Line{Way: api.Falling, C: math.MaxInt - 1}, api.ErrRange},
	} {
		if got, e := cut.Pieces(two(t), c.line); e != c.want || (e == api.OK) != (len(got) > 0) {
			t.Errorf("%s: %v, %d, wanted %d", name, got, e, c.want)
		}
	}
	for name, st := range samples.WrongStates() {
		for _, l := range []api.Line{{C: 2}, {Way: 4, C: 1}} {
			if got, e := cut.Pieces(st, l); e != api.ErrState || len(got) > 0 {
				t.Errorf("%s, %v: %v, %d", name, l, got, e)
			}
		}
	}
}

func TestP11_2_Known(t *testing.T) {
	folded, rows := two(t), by(t, samples.Full(2, 2), at(api.Level, 2, 1, false))
	for name, c := range map[string]struct {
		st   api.State
		at   api.Tri
		out  []api.Tri
		rest [][]api.Tri
	}{
		"one of a cell":                 {by(t, samples.Full(1, 1)), api.Tri{K: 1}, cell(0, 1), [][]api.Tri{cell(0, 0, 2, 3)}},
		"between two":                   {by(t, samples.Masked(1, 1, 7)), api.Tri{K: 1}, cell(0, 1), [][]api.Tri{cell(0, 0), cell(0, 2)}},
		"at an end":                     {by(t, samples.Masked(1, 1, 7)), api.Tri{K: 0}, cell(0, 0), [][]api.Tri{cell(0, 1, 2)}},
		"all there is":                  {by(t, samples.Masked(1, 1, 4)), api.Tri{K: 2}, cell(0, 2), nil},
		"where nothing is":              {by(t, samples.Masked(1, 1, 4)), api.Tri{K: 0}, nil, [][]api.Tri{cell(0, 2)}},
		"two layers, both stay joined":  {folded, api.Tri{K: 0}, []api.Tri{{}, {X: 1}}, [][]api.Tri{slices.Concat(cell(0, 1, 2, 3), cell(1, 1, 2, 3))}},
		"two layers, the fold is gone":  {folded, api.Tri{K: 1}, []api.Tri{{K: 1}, {X: 1, K: 3}}, [][]api.Tri{cell(0, 0, 2, 3), cell(1, 0, 1, 2)}},
		"where the paper came from":     {folded, api.Tri{X: 1, K: 3}, nil, [][]api.Tri{cells(0, 1)}},
		"past all":                      {folded, api.Tri{X: -7, Y: 9}, nil, [][]api.Tri{cells(0, 1)}},
		"as far as a place may be":      {folded, api.Tri{X: api.MaxPlace, Y: -api.MaxPlace, K: 3}, nil, [][]api.Tri{cells(0, 1)}},
		"through what lies in two rows": {rows, api.Tri{X: 1}, []api.Tri{{X: 1}, {X: 1, Y: 1, K: 2}}, nil},
		"the lower one is told first":   {rows, api.Tri{X: 1, K: 2}, []api.Tri{{X: 1, K: 2}, {X: 1, Y: 1}}, nil},
	} {
		if _, rest, _ := wantedPunch(c.st, c.at); c.st.Sheet.H > 1 {
			c.rest = rest // more than is read with ease
		}
		out, rest, e := cut.Punch(c.st, c.at)
		if e != api.OK || !slices.Equal(out, c.out) || !same(rest, c.rest) {
			t.Errorf("%s: %v, %v, %d, wanted %v, %v", name, out, rest, e, c.out, c.rest)
		}
	}
}

// All of the greatest sheet that lies on one triangle falls out there.
func TestP11_2_AllOnOne(t *testing.T) {
	st := samples.GoodStates()["all on one triangle"]
	out, rest, e := cut.Punch(st, api.Tri{})
	if e != api.OK || !slices.Equal(out, samples.Ordered(st.Sheet)) || len(rest) != 0 {
		t.Error(out, rest, e)
	}
	out, rest, e = cut.Punch(st, api.Tri{K: 1})
	if e != api.OK || len(out) != 0 || !same(rest, [][]api.Tri{samples.Ordered(st.Sheet)}) {
		t.Error(out, rest, e)
	}
}

func TestP11_2_Refused(t *testing.T) {
	const far = api.MaxPlace
	for name, c := range map[string]struct {
		at   api.Tri
		want api.Errno
	}{
		"goes":                {api.Tri{K: 3}, api.OK},
		"K 4":                 {api.Tri{K: 4}, api.ErrRange},
		"K below 0":           {api.Tri{K: -1}, api.ErrRange},
		"farthest":            {api.Tri{X: far, Y: far}, api.OK},
		"farthest below":      {api.Tri{X: -far, Y: -far, K: 2}, api.OK},
		"X too far":           {api.Tri{X: far + 1}, api.ErrRange},
		"Y too far":           {api.Tri{Y: far + 1}, api.ErrRange},
		"X too far below":     {api.Tri{X: -far - 1}, api.ErrRange},
		"Y too far below":     {api.Tri{Y: -far - 1}, api.ErrRange},
		"least numbers":       {api.Tri{X: math.MinInt, Y: math.MinInt, K: math.MinInt}, api.ErrRange},
		"greatest numbers":    {api.Tri{X: math.MaxInt, Y: math.MaxInt, K: math.MaxInt}, api.ErrRange},
		"far where none lies": {api.Tri{X: math.MaxInt}, api.ErrRange},
	} {
		out, rest, e := cut.Punch(two(t), c.at)
		if e != c.want || (e == api.OK) != (len(rest) > 0) || e != api.OK && len(out) > 0 {
			t.Errorf("%s: %v, %v, %d, wanted %d", name, out, rest, e, c.want)
		}
	}
	for name, st := range samples.WrongStates() {
		for _, at := range []api.Tri{{}, {K: 4}} {
			if out, rest, e := cut.Punch(st, at); e != api.ErrState || len(out) > 0 || len(rest) > 0 {
				t.Errorf("%s, %v: %v, %v, %d", name, at, out, rest, e)
			}
		}
	}
}

// wrong: is what is answered not what it should be?
func wrong(st api.State, l api.Line, at api.Tri) bool {
	pieces, e := cut.Pieces(st, l)
	out, rest, g := cut.Punch(st, at)
	wantPieces, code := wantedPieces(st, l)
	wantOut, wantRest, other := wantedPunch(st, at)
	return e != code || g != other || !same(pieces, wantPieces) || !slices.Equal(out, wantOut) || !same(rest, wantRest)
}

func TestP11_Many(t *testing.T) {
	d, counts := die(11), [2]int{} // of cuts, and of punches, that leave three pieces or more
	for _, st := range drawn(&d, 800) {
		for range 6 {
			l := api.Line{Way: d.below(4), C: 2*d.below(6) - 4}
			at := st.Stacks[d.below(len(st.Stacks))].At
			if d.below(9) == 0 {
				at = api.Tri{X: d.below(5) - 1, Y: d.below(5) - 1, K: d.below(5)}
				l.C += d.below(2)
			}
			if wrong(st, l, at) {
				pieces, e := cut.Pieces(st, l)
				out, rest, g := cut.Punch(st, at)
				t.Fatalf("%v, %v, %v: %v, %d, %v, %v, %d", st, l, at, pieces, e, out, rest, g)
			}
			if pieces, _ := cut.Pieces(st, l); len(pieces) > 2 {
				counts[0]++
			}
			if _, rest, _ := cut.Punch(st, at); len(rest) > 2 {
				counts[1]++
			}
		}
	}
	if min(counts[0], counts[1]) < 30 {
		t.Error("too few of one sort:", counts)
	}
}

// States that may be, with clashes and without, at the edges of what may be too.
func TestP11_GoodStates(t *testing.T) {
	for name, st := range samples.GoodStates() {
		if len(st.Maps) > 100 {
			continue // the chapter's words, taken one by one, are slow
		}
		mid := samples.Onto(st.Maps[0], api.Point{X: 2, Y: 2}) // an inner point of the paper, or one at its rim
		for way, c := range []int{mid.X, mid.Y, mid.X + mid.Y, mid.X - mid.Y} {
			at := st.Stacks[way%len(st.Stacks)].At
			if l := (api.Line{Way: way, C: c}); wrong(st, l, at) {
				pieces, e := cut.Pieces(st, l)
				out, rest, g := cut.Punch(st, at)
				t.Errorf("%s, %v, %v: %v, %d, %v, %v, %d", name, l, at, pieces, e, out, rest, g)
			}
		}
	}
}

// once: is each triangle of a sheet told just once?
func once(s api.Sheet, lists ...[]api.Tri) bool {
	told := map[api.Tri]int{}
	for _, x := range slices.Concat(lists...) {
		told[x]++
	}
	for _, x := range samples.Tris(s) {
		if told[x] != 1 {
			return false
		}
	}
	return len(told) == len(samples.Tris(s))
}

// meets: does paper lie on both sides of a line?
func meets(st api.State, l api.Line) bool {
	sides := map[int]int{}
	for _, s := range st.Stacks {
		side, _ := grid.Side(l, s.At)
		sides[side]++
	}
	return len(sides) == 2
}

func TestP11_WhatComesOfIt(t *testing.T) {
	d, whole := die(12), 0
	for _, st := range drawn(&d, 400) {
		l := api.Line{Way: d.below(4), C: 2*d.below(9) - 8}
		pieces, _ := cut.Pieces(st, l)
		out, rest, _ := cut.Punch(st, st.Stacks[d.below(len(st.Stacks))].At)
		if !once(st.Sheet, pieces...) || !once(st.Sheet, append(rest, out)...) || len(out) == 0 {
			t.Errorf("%v, %v: %v, %v, %v", st, l, pieces, out, rest)
		}
		b := lying(st)
		for _, piece := range pieces {
			if slices.ContainsFunc(piece, func(x api.Tri) bool { return b.side(l, x) != b.side(l, piece[0]) }) {
				t.Errorf("%v, %v: %v lies on both sides", st, l, piece)
			}
		}
		if (len(pieces) > 1) != meets(st, l) {
			t.Errorf("%v, %v: %v", st, l, pieces)
		}
		if len(pieces) == 1 {
			whole++
		}
	}
	if whole < 50 || whole > 350 {
		t.Error("too few of one sort:", whole)
	}
}

// What a fold of all layers creases anew is what a cut at its line would part.
func TestP11_1_Fold(t *testing.T) {
	d, folded := die(13), 0
	for _, st := range drawn(&d, 500) {
		f := at(d.below(4), 2*d.below(6)-2, 1, true)
		next, e := fold.Do(st, f)
		if e != api.OK {
			continue
		}
		folded++
		pieces, _ := cut.Pieces(st, f.Line)
		piece := map[api.Tri]int{}
		for n, tris := range pieces {
			for _, x := range tris {
				piece[x] = n
			}
		}
		before, after := samples.Kinds(st.Sheet), samples.Kinds(next.Sheet)
		for _, x := range samples.Tris(st.Sheet) {
			for _, y := range samples.Neighbours(st.Sheet, x) {
				edge := shared(x, y)
				if (piece[x] != piece[y]) != (before[edge] == 0 && after[edge] != 0) {
					t.Errorf("%v, %v: %v, at %v", st, f, pieces, edge)
				}
			}
		}
	}
	if folded < 100 {
		t.Error("only so many:", folded)
	}
}

// Turned over all falls into the same pieces.
func TestP11_TurnedOver(t *testing.T) {
	d := die(14)
	for _, st := range drawn(&d, 200) {
		turned, _ := stack.Turn(st)
		for way, other := range []int{api.Upright, api.Level, api.Rising, api.Falling} {
			c := 2 * d.below(5)
			l := api.Line{Way: other, C: c}
			if way != api.Level { // mirrored at X = 0
				l.C = -c
			}
			a, _ := cut.Pieces(st, api.Line{Way: way, C: c})
			if b, e := cut.Pieces(turned, l); e != api.OK || !same(a, b) {
				t.Errorf("%v, %d, %d: %v, turned over %v", st, way, c, a, b)
			}
		}
		n := d.below(len(st.Stacks))
		place, _ := grid.Move(api.Map{A: -1, D: 1}, st.Stacks[n].At)
		aOut, aRest, _ := cut.Punch(st, st.Stacks[n].At)
		if out, rest, e := cut.Punch(turned, place); e != api.OK || !slices.Equal(out, aOut) || !same(rest, aRest) {
			t.Errorf("%v: %v, %v, turned over %v, %v", st, aOut, aRest, out, rest)
		}
	}
}

func TestP11_WhatIsHandedInStays(t *testing.T) {
	for name, st := range samples.GoodStates() {
		roomy, stays := samples.RoomyState(st)
		cut.Pieces(roomy, api.Line{C: 2})
		cut.Punch(roomy, st.Stacks[0].At)
		if !stays() {
			t.Errorf("%s: it is changed", name)
		}
	}
}

func TestP11_NewMemory(t *testing.T) {
	l, place := api.Line{Way: api.Falling, C: 2}, api.Tri{K: 1}
	st := two(t)
	was := samples.CopyState(st)
	pieces, _ := cut.Pieces(st, l)
	out, rest, _ := cut.Punch(st, place)
	scribble(pieces)
	scribbleTris(out)
	scribble(rest)
	if !samples.SameState(st, was) {
		t.Error("it is shared with what was handed in")
	}
	if wrong(st, l, place) {
		t.Error("it is shared with a later answer")
	}
}

// No list of an answer has room in which another one lies.
func TestP11_ListsApart(t *testing.T) {
	d := die(15)
	for _, st := range drawn(&d, 100) {
		l, place := api.Line{Way: d.below(4), C: 2 * d.below(4)}, st.Stacks[d.below(len(st.Stacks))].At
		pieces, _ := cut.Pieces(st, l)
		out, rest, _ := cut.Punch(st, place)
		for _, list := range slices.Concat(pieces, rest, [][]api.Tri{out}) {
			scribbleTris(list[len(list):])
		}
		wantPieces, _ := wantedPieces(st, l)
		wantOut, wantRest, _ := wantedPunch(st, place)
		if !same(pieces, wantPieces) || !slices.Equal(out, wantOut) || !same(rest, wantRest) {
			t.Errorf("%v: two lists share memory", st)
		}
	}
}
