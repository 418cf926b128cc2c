package flat_test

import (
	"slices"
	"testing"

	"pleat/api"
	"pleat/faces"
	"pleat/flat"
	"pleat/grid"
	"pleat/samples"
)

const m, v = api.Mountain, api.Valley

// Rays from a point within: what is wrong there.
func TestP4_1_AtOnePoint(t *testing.T) {
	for name, c := range map[string]struct {
		kinds [8]int
		want  []int
	}{
		"no crease":                    {[8]int{}, nil},
		"straight through":             {[8]int{v, 0, 0, 0, v}, nil},
		"straight through, slant":      {[8]int{0, 0, 0, m, 0, 0, 0, m}, nil},
		"straight, of two kinds":       {[8]int{v, 0, 0, 0, m}, []int{api.Kinds}},
		"bent":                         {[8]int{0, m, 0, 0, m}, []int{api.Uneven}},
		"bent across the east":         {[8]int{0, v, 0, 0, 0, 0, 0, v}, []int{api.Uneven}},
		"bent, of two kinds":           {[8]int{0, m, 0, v}, []int{api.Uneven, api.Kinds}},
		"one crease":                   {[8]int{0, 0, v}, []int{api.Uneven, api.Kinds}},
		"three":                        {[8]int{m, 0, m, 0, m}, []int{api.Uneven, api.Kinds}},
		"three, half a turn":           {[8]int{v, 0, 0, 0, v, v}, []int{api.Uneven, api.Kinds}},
		"cross":                        {[8]int{v, 0, v, 0, v, 0, m}, nil},
		"cross, more mountains":        {[8]int{m, 0, v, 0, m, 0, m}, nil},
		"cross, as many of both":       {[8]int{m, 0, v, 0, m, 0, v}, []int{api.Kinds}},
		"cross of one kind":            {[8]int{v, 0, v, 0, v, 0, v}, []int{api.Kinds}},
		"four at unlike angles":        {[8]int{m, m, 0, m, 0, 0, v}, nil},
		"four on one side":             {[8]int{m, m, m, v}, []int{api.Uneven}},
		"lines not at right angles":    {[8]int{m, v, 0, 0, m, m}, []int{api.Uneven}},
		"five":                         {[8]int{m, m, m, v, v}, []int{api.Uneven, api.Kinds}},
		"six":                          {[8]int{m, m, v, 0, m, v, m}, nil},
		"six, as many of both":         {[8]int{m, m, v, 0, m, v, v}, []int{api.Kinds}},
		"six side by side":             {[8]int{m, m, v, m, v, m}, []int{api.Uneven}},
		"seven":                        {[8]int{m, v, m, v, m, v, m}, []int{api.Uneven, api.Kinds}},
		"eight":                        {[8]int{m, v, m, v, m, v, m, m}, nil},
		"eight, more valleys":          {[8]int{v, v, v, v, v, m, m, m}, nil},
		"eight, as many of both":       {[8]int{m, v, m, v, m, v, m, v}, []int{api.Kinds}},
		"eight, six of them mountains": {[8]int{m, v, m, v, m, m, m, m}, []int{api.Kinds}},
		"eight of one kind":            {[8]int{m, m, m, m, m, m, m, m}, []int{api.Kinds}},
	} {
		var want []api.Trouble
		for _, kind := range c.want {
			want = append(want, api.Trouble{At: center, Kind: kind})
		}
		if got, e := flat.Troubles(samples.Rays(c.kinds)); e != api.OK || !slices.Equal(got, want) {
			t.Errorf("%s: %v, %d", name, got, e)
		}
	}
}

func TestP4_1_AtMiddles(t *testing.T) {
	cell := func(kinds ...int) api.Sheet {
		of := map[api.Edge]int{}
		for i, e := range []api.Edge{samples.Edge(1, 1, 2, 2), samples.Edge(0, 2, 1, 1), samples.Edge(0, 0, 1, 1), samples.Edge(1, 1, 2, 0)} {
			of[e] = kinds[i]
		}
		return samples.Kinded(samples.Full(1, 1), of)
	}
	at := api.Point{X: 1, Y: 1}
	uneven, kinds := api.Trouble{At: at, Kind: api.Uneven}, api.Trouble{At: at, Kind: api.Kinds}
	for name, c := range map[string]struct {
		s    api.Sheet
		want []api.Trouble
	}{
		"none":           {cell(0, 0, 0, 0), nil},
		"one":            {cell(0, v, 0, 0), []api.Trouble{uneven, kinds}},
		"a diagonal":     {cell(0, v, 0, v), nil},
		"of two kinds":   {cell(m, 0, v, 0), []api.Trouble{kinds}},
		"bent":           {cell(m, m, 0, 0), []api.Trouble{uneven}},
		"three":          {cell(m, m, m, 0), []api.Trouble{uneven, kinds}},
		"four":           {cell(m, m, v, m), nil},
		"four, two each": {cell(m, m, v, v), []api.Trouble{kinds}},
		"four mountains": {cell(m, m, m, m), []api.Trouble{kinds}},
	} {
		if got, e := flat.Troubles(c.s); e != api.OK || !slices.Equal(got, c.want) {
			t.Errorf("%s: %v, %d", name, got, e)
		}
	}
}

// Points at the rim, and beside what lacks, have no troubles.
func TestP4_1_OnlyWithin(t *testing.T) {
	for name, s := range map[string]api.Sheet{
		"from the rim to the rim": samples.With(samples.Full(2, 1), samples.Crease(v, 2, 0, 2, 2)),
		"beside a cell missing":   samples.With(samples.Masked(2, 2, 15, 15, 15, 0), samples.Crease(v, 2, 0, 2, 2)),
		"a triangle missing":      samples.With(samples.Masked(2, 2, 15, 15, 15, 14), samples.Crease(v, 2, 0, 2, 2)),
		"a middle's missing":      samples.With(samples.Masked(1, 1, 14), samples.Crease(v, 1, 1, 2, 2)),
	} {
		if got, e := flat.Troubles(s); e != api.OK || len(got) != 0 {
			t.Errorf("%s: %v, %d", name, got, e)
		}
	}
}

// By X, then Y; of one point Uneven ahead of Kinds.
func TestP4_1_Order(t *testing.T) {
	s := samples.With(samples.Full(2, 2), samples.Crease(m, 1, 3, 2, 2), samples.Crease(v, 2, 2, 3, 1), samples.Crease(m, 3, 1, 4, 0), samples.Crease(m, 3, 3, 4, 4))
	want := []api.Trouble{
		{At: api.Point{X: 1, Y: 3}, Kind: api.Uneven}, {At: api.Point{X: 1, Y: 3}, Kind: api.Kinds},
		{At: center, Kind: api.Kinds},
		{At: api.Point{X: 3, Y: 1}, Kind: api.Kinds},
		{At: api.Point{X: 3, Y: 3}, Kind: api.Uneven}, {At: api.Point{X: 3, Y: 3}, Kind: api.Kinds},
	}
	if got, e := flat.Troubles(s); e != api.OK || !slices.Equal(got, want) {
		t.Error(got, e)
	}
}

func TestP4_1_EveryStar(t *testing.T) {
	samples.AllRays(func(kinds [8]int) {
		s := samples.Rays(kinds)
		if got, e := flat.Troubles(s); e != api.OK || !slices.Equal(got, wantTroubles(s)) {
			t.Errorf("%v: %v, %d", kinds, got, e)
		}
	})
}

func TestP4_1_TroublesOfMany(t *testing.T) {
	for _, s := range samples.Plenty() {
		if got, e := flat.Troubles(s); e != api.OK || !slices.Equal(got, wantTroubles(s)) {
			t.Errorf("%v: %v, %d, wanted %v", s, got, e, wantTroubles(s))
		}
	}
}

// The mirrors at all four kinds of lines, with either kind of crease.
func TestP4_2_Mirrors(t *testing.T) {
	for l, mirror := range map[api.Line]api.Map{
		{Way: api.Upright, C: 2}: {A: -1, D: 1, E: 4},
		{Way: api.Upright, C: 4}: {A: -1, D: 1, E: 8},
		{Way: api.Level, C: 2}:   {A: 1, D: -1, F: 4},
		{Way: api.Falling, C: 2}: {B: -1, C: -1, E: 2, F: 2},
		{Way: api.Falling, C: 4}: {B: -1, C: -1, E: 4, F: 4},
		{Way: api.Rising, C: 0}:  {B: 1, C: 1},
		{Way: api.Rising, C: 2}:  {B: 1, C: 1, E: 2, F: -2},
		{Way: api.Rising, C: -2}: {B: 1, C: 1, E: -2, F: 2},
	} {
		for kind := m; kind <= v; kind++ {
			s := samples.Lined(samples.Full(3, 2), kind, l)
			got, e := flat.Place(s)
			if e != api.OK || len(got) != 24 {
				t.Fatal(l, got, e)
			}
			tris := samples.Ordered(s)
			own, _ := grid.Side(l, tris[0])
			for i, x := range tris {
				side, _ := grid.Side(l, x)
				if side == own && got[i] != stay || side != own && got[i] != mirror {
					t.Errorf("%v, kind %d, %v: %v", l, kind, x, got[i])
				}
			}
		}
	}
}

// Two creases: what lies behind both is mirrored at the farther one first.
func TestP4_2_TwoCreases(t *testing.T) {
	got, e := flat.Place(samples.Lined(samples.Full(3, 1), v, api.Line{C: 2}, api.Line{C: 4}))
	want := []api.Map{stay, {A: -1, D: 1, E: 4}, {A: 1, D: 1, E: -4}}
	if e != api.OK || len(got) != 12 {
		t.Fatal(got, e)
	}
	for i, a := range got {
		if a != want[i/4] {
			t.Errorf("cell %d: %v", i/4, a)
		}
	}
	got, e = flat.Place(samples.Lined(samples.Full(2, 2), m, api.Line{C: 2}, api.Line{Way: api.Level, C: 2}))
	want = []api.Map{stay, {A: -1, D: 1, E: 4}, {A: 1, D: -1, F: 4}, {A: -1, D: -1, E: 4, F: 4}}
	if e != api.OK || len(got) != 16 {
		t.Fatal(got, e)
	}
	for i, a := range got {
		if a != want[i/4] {
			t.Errorf("cell %d: %v", i/4, a)
		}
	}
}

// The first triangle is the one that stays, wherever it lies.
func TestP4_2_FirstStays(t *testing.T) {
	for name, s := range map[string]api.Sheet{
		"one triangle": samples.Masked(1, 1, 4),
		"far":          samples.Masked(8, 8, append(make([]int, 63), 8)...),
		"no south":     samples.With(samples.Masked(1, 1, 14), samples.Crease(v, 1, 1, 2, 2)),
		"not at 0":     samples.Lined(samples.Masked(3, 2, 0, 15, 15, 15, 15, 15), v, api.Line{C: 2}),
	} {
		if got, e := flat.Place(s); e != api.OK || len(got) != len(samples.Tris(s)) || got[0] != stay {
			t.Errorf("%s: %v, %d", name, got, e)
		}
	}
	got, e := flat.Place(samples.Lined(samples.Masked(3, 2, 0, 15, 15, 15, 15, 15), v, api.Line{C: 2}))
	if e != api.OK || got[8] != (api.Map{A: -1, D: 1, E: 4}) || got[12] != stay {
		t.Error(got, e)
	}
}

// Creased at all edges a sheet comes to lie in one triangle's place.
func TestP4_2_AllOnOne(t *testing.T) {
	s := samples.Creased(samples.Full(8, 8), every)
	got, e := flat.Place(s)
	if e != api.OK || len(got) != 256 {
		t.Fatal(len(got), e)
	}
	for i, x := range samples.Ordered(s) {
		if at, code := grid.Move(got[i], x); code != api.OK || at != (api.Tri{}) {
			t.Errorf("%v comes to %v, %d", x, at, code)
		}
	}
}

func TestP4_2_Tear(t *testing.T) {
	ring := samples.Masked(3, 3, 15, 15, 15, 15, 0, 15, 15, 15, 15)
	west, east := samples.Crease(v, 0, 2, 2, 2), samples.Crease(v, 4, 2, 6, 2)
	for name, c := range map[string]struct {
		s    api.Sheet
		want api.Errno
	}{
		"a crease that ends within":      {samples.With(samples.Full(1, 1), samples.Crease(v, 0, 0, 1, 1)), api.ErrTear},
		"bent":                           {samples.With(samples.Full(1, 1), samples.Crease(v, 0, 0, 1, 1), samples.Crease(v, 0, 2, 1, 1)), api.ErrTear},
		"an edge within":                 {samples.With(samples.Full(3, 3), samples.Crease(v, 2, 2, 4, 2)), api.ErrTear},
		"lines not at right angles":      {samples.Lined(samples.Full(2, 2), v, api.Line{C: 2}, api.Line{Way: api.Rising}), api.ErrTear},
		"kinds alone are wrong":          {samples.Rays([8]int{v, 0, 0, 0, m}), api.OK},
		"ends at what lacks":             {samples.With(samples.Masked(1, 1, 14), samples.Crease(v, 1, 1, 2, 2)), api.OK},
		"a ring, whole":                  {ring, api.OK},
		"a ring, one crease":             {samples.With(ring, west), api.ErrTear},
		"a ring, two on one line":        {samples.With(ring, west, east), api.OK},
		"a ring, two that lie alike":     {samples.With(ring, west, samples.Crease(v, 4, 4, 6, 4)), api.ErrTear},
		"a ring, two at right angles":    {samples.With(ring, west, samples.Crease(v, 4, 0, 4, 2)), api.ErrTear},
		"a ring, a line and another one": {samples.Lined(ring, v, api.Line{C: 2}, api.Line{C: 4}, api.Line{Way: api.Level, C: 2}), api.OK},
	} {
		got, e := flat.Place(c.s)
		if e != c.want || e == api.ErrTear && len(got) != 0 || e == api.OK && len(got) != len(samples.Tris(c.s)) {
			t.Errorf("%s: %v, %d, wanted %d", name, got, e, c.want)
		}
	}
	if got, e := flat.Troubles(samples.With(ring, west)); e != api.OK || len(got) != 0 {
		t.Error("torn around a hole, no star has troubles:", got, e)
	}
}

// wrongPlaces: do the maps not bring all corners where they belong?
func wrongPlaces(s api.Sheet, got []api.Map, e api.Errno) bool {
	want, tris := wantCorners(s), samples.Ordered(s)
	if want == nil {
		return e != api.ErrTear || len(got) != 0
	}
	if e != api.OK || len(got) != len(tris) {
		return true
	}
	for i, x := range tris {
		if brought(got[i], cornersOf(x)) != want[x] {
			return true
		}
	}
	return false
}

func TestP4_2_PlacesOfMany(t *testing.T) {
	torn, whole := 0, 0
	for _, s := range samples.Plenty() {
		got, e := flat.Place(s)
		if wrongPlaces(s, got, e) {
			t.Errorf("%v: %v, %d", s, got, e)
		}
		if e == api.ErrTear {
			torn++
		} else {
			whole++
		}
	}
	if torn < 100 || whole < 100 {
		t.Error("too few of one sort:", torn, whole)
	}
}

func TestP4_2_EveryStar(t *testing.T) {
	samples.AllRays(func(kinds [8]int) {
		s := samples.Rays(kinds)
		if got, e := flat.Place(s); wrongPlaces(s, got, e) {
			t.Errorf("%v: %v, %d", kinds, got, e)
		}
	})
}

// Sheets that were folded step by step, all layers at one time: all triangles come to where the steps brought them, and no star has troubles.
func TestP4_Folded(t *testing.T) {
	lines := []api.Line{{C: 4}, {Way: api.Falling, C: 4}, {Way: api.Level, C: 2}, {Way: api.Rising, C: 2}, {C: 2}, {Way: api.Falling, C: 6}, {Way: api.Rising, C: -2}, {Way: api.Level, C: 4}}
	for _, s := range []api.Sheet{samples.Full(4, 4), samples.Full(8, 8), samples.Full(5, 3), samples.Masked(3, 3, 15, 15, 15, 15, 0, 15, 15, 15, 15), samples.Masked(2, 2, 7, 15, 15, 14)} {
		for n := range len(lines) * len(lines) {
			i, j := n%len(lines), n/len(lines)
			paper, want := folded(s, lines[i], lines[j], lines[(i+j+1)%len(lines)])
			if got, e := flat.Place(paper); e != api.OK || !slices.Equal(got, want) {
				t.Errorf("%v: %v, %d, wanted %v", paper, got, e, want)
			}
			if got, e := flat.Troubles(paper); e != api.OK || len(got) != 0 {
				t.Errorf("%v: %v, %d", paper, got, e)
			}
		}
	}
}

// Two triangles come to lie on both sides of where their edge comes to, folded on one side, and so at one place.
func TestP4_2_Sides(t *testing.T) {
	for _, s := range samples.Plenty() {
		maps, e := flat.Place(s)
		if e != api.OK {
			continue
		}
		tris := samples.Ordered(s)
		pairs(s, func(x, y api.Tri, kind int) {
			at, _ := grid.Move(maps[slices.Index(tris, x)], x)
			to, _ := grid.Move(maps[slices.Index(tris, y)], y)
			shared := 0
			for _, p := range cornersOf(at) {
				if slices.Contains(list(to), p) {
					shared++
				}
			}
			if kind == 0 && (at == to || shared != 2) || kind != 0 && at != to {
				t.Errorf("%v: %v at %v, %v at %v, kind %d", s, x, at, y, to, kind)
			}
		})
	}
}

// If maps are so, no star is Uneven; if none is, and there are no holes, maps are so.
func TestP4_UnevenTears(t *testing.T) {
	for _, s := range samples.Plenty() {
		_, code := flat.Place(s)
		troubles, _ := flat.Troubles(s)
		holes, _ := faces.Holes(s)
		uneven := slices.ContainsFunc(troubles, func(x api.Trouble) bool { return x.Kind == api.Uneven })
		if uneven && code != api.ErrTear || !uneven && holes == 0 && code != api.OK {
			t.Errorf("%v: %d, %v, holes: %d", s, code, troubles, holes)
		}
	}
}

func TestP4_Refused(t *testing.T) {
	for name, s := range samples.Wrong() {
		if l, e := flat.Troubles(s); e != api.ErrState || len(l) != 0 {
			t.Errorf("%s: Troubles: %v, %d", name, l, e)
		}
		if l, e := flat.Place(s); e != api.ErrState || len(l) != 0 {
			t.Errorf("%s: Place: %v, %d", name, l, e)
		}
	}
}

func TestP4_WhatIsHandedInStays(t *testing.T) {
	for name, s := range samples.Good() {
		roomy, unchanged := samples.Roomy(s)
		flat.Troubles(roomy)
		flat.Place(roomy)
		if !unchanged() {
			t.Errorf("%s: what was handed in was changed", name)
		}
	}
}

// An answer is written over, its spare room too: no later one is touched by it.
func TestP4_NewMemory(t *testing.T) {
	s := samples.Rays([8]int{m, 0, m, 0, m, 0, m})
	k, _ := flat.Troubles(s)
	l, _ := flat.Place(s)
	for i := range k[:cap(k)] {
		k[:cap(k)][i] = api.Trouble{Kind: 9}
	}
	for i := range l[:cap(l)] {
		l[:cap(l)][i] = api.Map{A: 9}
	}
	if got, e := flat.Troubles(s); e != api.OK || !slices.Equal(got, wantTroubles(s)) {
		t.Error("an answer shares memory with an earlier one:", got, e)
	}
	if got, e := flat.Place(s); wrongPlaces(s, got, e) {
		t.Error("an answer shares memory with an earlier one:", got, e)
	}
}
