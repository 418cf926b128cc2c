package sheet_test

import (
	"slices"
	"strings"
	"testing"

	"pleat/api"
	"pleat/samples"
	"pleat/sheet"
)

func TestP2_1_SheetsThatMayBe(t *testing.T) {
	for name, s := range samples.Good() {
		if !sheet.May(s) {
			t.Errorf("%s: may not be: %v", name, s)
		}
	}
}

func TestP2_1_SheetsThatMayNotBe(t *testing.T) {
	for name, s := range samples.Wrong() {
		if sheet.May(s) {
			t.Errorf("%s: may be: %v", name, s)
		}
	}
}

func TestP2_1_EverySize(t *testing.T) {
	for w := -2; w <= api.MaxSide+2; w++ {
		for h := -2; h <= api.MaxSide+2; h++ {
			want := w >= 1 && h >= 1 && w <= api.MaxSide && h <= api.MaxSide
			if got := sheet.May(api.Sheet{W: w, H: h, Mask: slices.Repeat([]int{15}, max(w*h, 0))}); got != want {
				t.Errorf("%d and %d cells: %v", w, h, got)
			}
		}
	}
}

// Small masks, all of them: joined across edges, not at points.
func TestP2_1_EveryMaskOfTwoCells(t *testing.T) {
	for n := range 256 {
		for _, s := range []api.Sheet{samples.Masked(2, 1, n%16, n/16), samples.Masked(1, 2, n%16, n/16)} {
			if got, want := sheet.May(s), onePiece(s); got != want {
				t.Errorf("%v: %v, wanted %v", s, got, want)
			}
		}
	}
}

func TestP2_1_MasksOfFourCells(t *testing.T) {
	for n := 0; n < 1<<16; n += 31 {
		s := samples.Masked(2, 2, n%16, n/16%16, n/256%16, n/4096)
		if got, want := sheet.May(s), onePiece(s); got != want {
			t.Errorf("%v: %v, wanted %v", s, got, want)
		}
	}
}

// Every pair of points in and around a sheet: a crease may be there just if it is an inner edge's.
func TestP2_1_EveryEdge(t *testing.T) {
	s := samples.Masked(2, 2, 15, 13, 15, 7)
	allowed := map[api.Edge]int{}
	for _, e := range samples.Inner(s) {
		allowed[e] = 1
	}
	for n := range 7 * 7 * 7 * 7 {
		e := samples.Edge(n%7-1, n/7%7-1, n/49%7-1, n/343-1)
		for kind := -1; kind <= 4; kind++ {
			want := allowed[e] == 1 && (kind == api.Mountain || kind == api.Valley)
			if got := sheet.May(samples.With(s, api.Crease{E: e, Kind: kind})); got != want {
				t.Errorf("%v of kind %d: %v", e, kind, got)
			}
		}
	}
}

// Two creases: the second one's edge must be the greater one.
func TestP2_1_CreasesRise(t *testing.T) {
	s := samples.Full(2, 2)
	edges := samples.Inner(s)
	for i, a := range edges {
		for j, b := range edges {
			if got := sheet.May(samples.With(s, api.Crease{E: a, Kind: 1}, api.Crease{E: b, Kind: 2})); got != (i < j) {
				t.Errorf("%v, then %v: %v", a, b, got)
			}
		}
	}
}

func TestP2_1_WhatIsHandedInStays(t *testing.T) {
	for name, s := range samples.Good() {
		roomy, unchanged := samples.Roomy(s)
		sheet.May(roomy)
		sheet.Tris(roomy)
		sheet.Show(roomy)
		if !unchanged() {
			t.Errorf("%s: what was handed in was changed", name)
		}
	}
}

func TestP2_2_Tris(t *testing.T) {
	got, e := sheet.Tris(samples.Masked(2, 2, 14, 9, 7, 13))
	want := []api.Tri{
		{X: 0, Y: 0, K: 1}, {X: 0, Y: 0, K: 2}, {X: 0, Y: 0, K: 3},
		{X: 1, Y: 0, K: 0}, {X: 1, Y: 0, K: 3},
		{X: 0, Y: 1, K: 0}, {X: 0, Y: 1, K: 1}, {X: 0, Y: 1, K: 2},
		{X: 1, Y: 1, K: 0}, {X: 1, Y: 1, K: 2}, {X: 1, Y: 1, K: 3},
	}
	if e != api.OK || !slices.Equal(got, want) {
		t.Error(got, e)
	}
}

// Each triangle that is there is told once, by Y, then X, then K.
func TestP2_2_TrisOfAll(t *testing.T) {
	for name, s := range samples.Good() {
		got, e := sheet.Tris(s)
		if e != api.OK || len(got) != len(samples.Tris(s)) {
			t.Fatalf("%s: %d triangles, %d", name, len(got), e)
		}
		for i, a := range got {
			if !samples.There(s, a) {
				t.Errorf("%s: %v is not there", name, a)
			}
			if i == 0 {
				continue
			}
			if b := got[i-1]; b.Y*1000+b.X*10+b.K >= a.Y*1000+a.X*10+a.K {
				t.Errorf("%s: %v, then %v", name, b, a)
			}
		}
	}
}

func TestP2_2_NewMemory(t *testing.T) {
	first, _ := sheet.Tris(samples.Full(2, 1))
	for i := range first[:cap(first)] {
		first[:cap(first)][i] = api.Tri{X: 9, Y: 9, K: 9}
	}
	if second, _ := sheet.Tris(samples.Full(2, 1)); second[0] != (api.Tri{}) || second[7] != (api.Tri{X: 1, K: 3}) {
		t.Error("an answer shares memory with an earlier one:", second)
	}
}

func TestP2_2_P2_3_Refused(t *testing.T) {
	for name, s := range samples.Wrong() {
		if l, e := sheet.Tris(s); e != api.ErrState || len(l) != 0 {
			t.Errorf("%s: Tris: %v, %d", name, l, e)
		}
		if u, e := sheet.Show(s); e != api.ErrState || u != "" {
			t.Errorf("%s: Show: %q, %d", name, u, e)
		}
	}
}

func TestP2_3_Show(t *testing.T) {
	for _, c := range []struct {
		s    api.Sheet
		want []string
	}{
		{samples.Full(1, 1), []string{"sheet 1 1", "f"}},
		{samples.Masked(1, 1, 1), []string{"sheet 1 1", "1"}},
		{samples.With(samples.Full(2, 1), samples.Crease(api.Valley, 2, 0, 2, 2)), []string{"sheet 2 1", "ff", "v 2 0 2 2"}},
		{samples.Masked(2, 3, 15, 13, 11, 15, 14, 13), []string{"sheet 2 3", "ed", "bf", "fd"}}, // the highest row first
		{samples.Masked(3, 1, 6, 14, 12), []string{"sheet 3 1", "6ec"}},
		{samples.Masked(3, 3, 0, 0, 0, 0, 9, 0, 0, 0, 0), []string{"sheet 3 3", "000", "090", "000"}},
		{samples.With(samples.Full(8, 1), samples.Crease(api.Mountain, 9, 1, 10, 0), samples.Crease(api.Valley, 14, 0, 14, 2)), []string{"sheet 8 1", "ffffffff", "m 9 1 10 0", "v 14 0 14 2"}},
		{samples.With(samples.Full(1, 2), samples.Crease(api.Valley, 0, 0, 1, 1), samples.Crease(api.Mountain, 0, 2, 1, 1), samples.Crease(api.Mountain, 0, 2, 2, 2)), []string{"sheet 1 2", "f", "f", "v 0 0 1 1", "m 0 2 1 1", "m 0 2 2 2"}},
	} {
		if got, e := sheet.Show(c.s); e != api.OK || got != strings.Join(c.want, "\n")+"\n" {
			t.Errorf("%v: %q, %d", c.s, got, e)
		}
	}
}

// Each of the sixteen letters, with what joins its triangles around it.
func TestP2_3_Letters(t *testing.T) {
	for n := range 16 {
		s := samples.Full(3, 3)
		s.Mask[4] = n
		want := "sheet 3 3\nfff\nf" + string("0123456789abcdef"[n]) + "f\nfff\n"
		if got, e := sheet.Show(s); e != api.OK || got != want {
			t.Errorf("%d: %q, %d", n, got, e)
		}
		if back, f := sheet.Read(want); f != (api.Fault{}) || !same(back, s) {
			t.Errorf("%d: %v, %v", n, back, f)
		}
	}
}

func TestP2_3_P2_4_WhatIsShownIsReadAgain(t *testing.T) {
	for name, s := range samples.Good() {
		u, e := sheet.Show(s)
		if e != api.OK || len(u) > api.MaxText {
			t.Fatalf("%s: %d bytes, %d", name, len(u), e)
		}
		back, f := sheet.Read(u)
		if f != (api.Fault{}) || !same(back, s) {
			t.Errorf("%s: %q is read as %v, %v", name, u, back, f)
		}
	}
}
