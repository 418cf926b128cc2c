package faces_test

import (
	"testing"

	"pleat/api"
	"pleat/faces"
	"pleat/samples"
)

func tri(x, y, k int) api.Tri { return api.Tri{X: x, Y: y, K: k} }

func every(int) bool { return true }

func TestP3_Example(t *testing.T) {
	s := samples.Creased(samples.Full(1, 1), every)
	l, e := faces.Faces(s)
	if e != api.OK || !sameFaces(l, [][]api.Tri{{tri(0, 0, 0)}, {tri(0, 0, 1)}, {tri(0, 0, 2)}, {tri(0, 0, 3)}}) {
		t.Error("faces:", l, e)
	}
	k, e := faces.Stars(s)
	if e != api.OK || len(k) != 1 || !sameStars(k, []api.Star{{At: api.Point{X: 1, Y: 1}, Dirs: []int{1, 3, 5, 7}, Kinds: []int{2, 2, 1, 1}}}) {
		t.Error("stars:", k, e)
	}
	if n, e := faces.Holes(s); e != api.OK || n != 0 {
		t.Error("holes:", n, e)
	}
}

func TestP3_1_Faces(t *testing.T) {
	cell := func(x, y int) []api.Tri { return []api.Tri{tri(x, y, 0), tri(x, y, 1), tri(x, y, 2), tri(x, y, 3)} }
	two := append(cell(0, 0), cell(1, 0)...)
	for name, c := range map[string]struct {
		s    api.Sheet
		want [][]api.Tri
	}{
		"one triangle":    {samples.Masked(1, 1, 4), [][]api.Tri{{tri(0, 0, 2)}}},
		"without creases": {samples.Full(2, 1), [][]api.Tri{two}},
		"a valley":        {samples.With(samples.Full(2, 1), samples.Crease(2, 2, 0, 2, 2)), [][]api.Tri{cell(0, 0), cell(1, 0)}},
		"a mountain":      {samples.With(samples.Full(2, 1), samples.Crease(1, 2, 0, 2, 2)), [][]api.Tri{cell(0, 0), cell(1, 0)}},
		"a crease that ends within": {
			samples.With(samples.Full(1, 1), samples.Crease(2, 0, 0, 1, 1)), [][]api.Tri{cell(0, 0)},
		},
		"a diagonal": {
			samples.With(samples.Full(1, 1), samples.Crease(2, 0, 0, 1, 1), samples.Crease(2, 1, 1, 2, 2)),
			[][]api.Tri{{tri(0, 0, 0), tri(0, 0, 1)}, {tri(0, 0, 2), tri(0, 0, 3)}},
		},
		"faces between one another": { // the second face begins ahead of where the first one ends
			samples.With(samples.Full(1, 1), samples.Crease(2, 0, 2, 1, 1), samples.Crease(2, 1, 1, 2, 0)),
			[][]api.Tri{{tri(0, 0, 0), tri(0, 0, 3)}, {tri(0, 0, 1), tri(0, 0, 2)}},
		},
		"a row above another": {
			samples.With(samples.Full(1, 2), samples.Crease(1, 0, 2, 2, 2)), [][]api.Tri{cell(0, 0), cell(0, 1)},
		},
	} {
		if got, e := faces.Faces(c.s); e != api.OK || !sameFaces(got, c.want) {
			t.Errorf("%s: %v, %d", name, got, e)
		}
	}
}

// A ring is parted by two creases across it, not by one.
func TestP3_1_Ring(t *testing.T) {
	ring := samples.Masked(3, 3, 15, 15, 15, 15, 0, 15, 15, 15, 15)
	one, two := samples.Crease(1, 0, 2, 2, 2), samples.Crease(1, 4, 2, 6, 2)
	if l, e := faces.Faces(samples.With(ring, one)); e != api.OK || len(l) != 1 || len(l[0]) != 32 {
		t.Error(l, e)
	}
	if l, e := faces.Faces(samples.With(ring, one, two)); e != api.OK || len(l) != 2 || len(l[0]) != 12 || len(l[1]) != 20 {
		t.Error(l, e)
	}
}

func TestP3_1_FacesOfMany(t *testing.T) {
	for _, s := range samples.Many() {
		if got, e := faces.Faces(s); e != api.OK || !sameFaces(got, wantFaces(s)) {
			t.Errorf("%v: %v, %d, wanted %v", s, got, e, wantFaces(s))
		}
	}
}

func TestP3_2_Stars(t *testing.T) {
	cross := []api.Crease{samples.Crease(2, 1, 1, 2, 2), samples.Crease(1, 1, 3, 2, 2), samples.Crease(2, 2, 0, 2, 2), samples.Crease(2, 2, 2, 3, 1), samples.Crease(1, 2, 2, 4, 2)}
	middles := []api.Star{
		{At: api.Point{X: 1, Y: 1}, Dirs: []int{1}, Kinds: []int{2}},
		{At: api.Point{X: 1, Y: 3}, Dirs: []int{7}, Kinds: []int{1}},
	}
	center := api.Star{At: api.Point{X: 2, Y: 2}, Dirs: []int{0, 3, 5, 6, 7}, Kinds: []int{1, 1, 2, 2, 2}}
	last := api.Star{At: api.Point{X: 3, Y: 1}, Dirs: []int{3}, Kinds: []int{2}}
	for name, c := range map[string]struct {
		s    api.Sheet
		want []api.Star
	}{
		"without creases":       {samples.Full(2, 2), nil},
		"from rim to rim":       {samples.With(samples.Full(2, 1), samples.Crease(2, 2, 0, 2, 2)), nil},
		"at a corner of cells":  {samples.With(samples.Full(2, 2), cross...), []api.Star{middles[0], middles[1], center, last}},
		"one beside it missing": {samples.With(samples.Masked(2, 2, 15, 15, 15, 14), cross[:4]...), []api.Star{middles[0], middles[1], last}},
		"one at a middle missing": {
			samples.With(samples.Masked(2, 2, 14, 15, 15, 15), cross...), []api.Star{middles[1], center, last},
		},
		"a half of a diagonal": {
			samples.With(samples.Full(1, 1), samples.Crease(1, 0, 2, 1, 1)), []api.Star{{At: api.Point{X: 1, Y: 1}, Dirs: []int{3}, Kinds: []int{1}}},
		},
	} {
		if got, e := faces.Stars(c.s); e != api.OK || !sameStars(got, c.want) {
			t.Errorf("%s: %v, %d", name, got, e)
		}
	}
}

// All directions, each with a kind of its own: eight from a corner of cells, four from a middle.
func TestP3_2_EveryDirection(t *testing.T) {
	edges := []api.Edge{samples.Edge(2, 2, 4, 2), samples.Edge(2, 2, 3, 3), samples.Edge(2, 2, 2, 4), samples.Edge(1, 3, 2, 2), samples.Edge(0, 2, 2, 2), samples.Edge(1, 1, 2, 2), samples.Edge(2, 0, 2, 2), samples.Edge(2, 2, 3, 1)}
	for d, e := range edges {
		for kind := api.Mountain; kind <= api.Valley; kind++ {
			stars, code := faces.Stars(samples.With(samples.Full(2, 2), api.Crease{E: e, Kind: kind}))
			found := 0
			for _, s := range stars {
				if s.At == (api.Point{X: 2, Y: 2}) && len(s.Dirs) == 1 && s.Dirs[0] == d && len(s.Kinds) == 1 && s.Kinds[0] == kind {
					found++
				}
			}
			if code != api.OK || found != 1 || len(stars) != 1+d%2 { // a slant one has its star at the middle, too
				t.Errorf("direction %d, kind %d: %v, %d", d, kind, stars, code)
			}
		}
	}
}

// The stars of a whole sheet that is creased at all edges: by X, then Y, none of them at the rim.
func TestP3_2_Order(t *testing.T) {
	stars, e := faces.Stars(samples.Creased(samples.Full(8, 8), every))
	if e != api.OK || len(stars) != 64+49 {
		t.Fatal(len(stars), e)
	}
	for i, s := range stars {
		if i > 0 && (s.At.X < stars[i-1].At.X || s.At.X == stars[i-1].At.X && s.At.Y <= stars[i-1].At.Y) {
			t.Error(stars[i-1].At, "then", s.At)
		}
		if len(s.Dirs) != 4+4*(1-s.At.X%2) || len(s.Kinds) != len(s.Dirs) {
			t.Error(s)
		}
	}
}

func TestP3_2_StarsOfMany(t *testing.T) {
	for _, s := range samples.Many() {
		if got, e := faces.Stars(s); e != api.OK || !sameStars(got, wantStars(s)) {
			t.Errorf("%v: %v, %d, wanted %v", s, got, e, wantStars(s))
		}
	}
}

func TestP3_3_Holes(t *testing.T) {
	for name, c := range map[string]struct {
		s    api.Sheet
		want int
	}{
		"one triangle":             {samples.Masked(1, 1, 1), 0},
		"one cell":                 {samples.Full(1, 1), 0},
		"greatest":                 {samples.Full(8, 8), 0},
		"greatest, creased":        {samples.Creased(samples.Full(8, 8), every), 0},
		"a cell is missing":        {samples.Masked(3, 3, 15, 15, 15, 15, 0, 15, 15, 15, 15), 1},
		"a triangle is missing":    {samples.Masked(3, 3, 15, 15, 15, 15, 14, 15, 15, 15, 15), 1},
		"two opposite ones":        {samples.Masked(3, 3, 15, 15, 15, 15, 10, 15, 15, 15, 15), 2},
		"two side by side":         {samples.Masked(3, 3, 15, 15, 15, 15, 12, 15, 15, 15, 15), 1},
		"open at the rim":          {samples.Masked(3, 3, 15, 15, 15, 15, 0, 0, 15, 15, 15), 0},
		"touches the rim's corner": {samples.Masked(2, 2, 15, 15, 15, 14), 1},
		"one at the rim":           {samples.Masked(1, 1, 14), 0},
		"cells at a corner":        {samples.Masked(4, 4, 15, 15, 15, 15, 15, 0, 15, 15, 15, 15, 0, 15, 15, 15, 15, 15), 2},
		"a cell at the rim":        {samples.Masked(2, 2, 15, 15, 15, 0), 0},
	} {
		if got, e := faces.Holes(c.s); e != api.OK || got != c.want || got != wantHoles(c.s) {
			t.Errorf("%s: %d, %d", name, got, e)
		}
	}
}

func TestP3_3_HolesOfMany(t *testing.T) {
	for _, s := range samples.Many() {
		if got, e := faces.Holes(s); e != api.OK || got != wantHoles(s) {
			t.Errorf("%v: %d, %d, wanted %d", s, got, e, wantHoles(s))
		}
	}
}

func TestP3_Refused(t *testing.T) {
	for name, s := range samples.Wrong() {
		if l, e := faces.Faces(s); e != api.ErrState || len(l) != 0 {
			t.Errorf("%s: Faces: %v, %d", name, l, e)
		}
		if l, e := faces.Stars(s); e != api.ErrState || len(l) != 0 {
			t.Errorf("%s: Stars: %v, %d", name, l, e)
		}
		if n, e := faces.Holes(s); e != api.ErrState || n != 0 {
			t.Errorf("%s: Holes: %d, %d", name, n, e)
		}
	}
}

func TestP3_WhatIsHandedInStays(t *testing.T) {
	for name, s := range samples.Good() {
		roomy, unchanged := samples.Roomy(s)
		faces.Faces(roomy)
		faces.Stars(roomy)
		faces.Holes(roomy)
		if !unchanged() {
			t.Errorf("%s: what was handed in was changed", name)
		}
	}
}

// What one list has, its spare room too, is written over: no other list, and no later answer, is touched by it.
func TestP3_NewMemory(t *testing.T) {
	s := samples.Creased(samples.Full(3, 2), func(i int) bool { return i%2 == 0 })
	l, _ := faces.Faces(s)
	k, _ := faces.Stars(s)
	for i := range l {
		if !sameFaces(l[i:], wantFaces(s)[i:]) {
			t.Fatal("faces share memory")
		}
		for j := range l[i][:cap(l[i])] {
			l[i][:cap(l[i])][j] = tri(9, 9, 9)
		}
	}
	for i := range k {
		if !sameStars(k[i:], wantStars(s)[i:]) {
			t.Fatal("stars share memory")
		}
		dirs, kinds := k[i].Dirs[:cap(k[i].Dirs)], k[i].Kinds[:cap(k[i].Kinds)]
		for j := range dirs {
			dirs[j] = 9
		}
		if len(k[i].Kinds) == 0 || k[i].Kinds[0] != wantStars(s)[i].Kinds[0] {
			t.Fatal("directions and kinds share memory")
		}
		for j := range kinds {
			kinds[j] = 9
		}
	}
	if again, _ := faces.Faces(s); !sameFaces(again, wantFaces(s)) {
		t.Error("an answer shares memory with an earlier one:", again)
	}
	if again, _ := faces.Stars(s); !sameStars(again, wantStars(s)) {
		t.Error("an answer shares memory with an earlier one:", again)
	}
}
