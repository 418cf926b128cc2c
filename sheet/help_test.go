package sheet_test

import (
	"cmp"
	"slices"
	"strings"
	"testing"

	"pleat/api"
	"pleat/grid"
)

// full: a sheet of whole cells.
func full(w, h int) api.Sheet {
	return masked(w, h, slices.Repeat([]int{15}, w*h)...)
}

// masked: a sheet of such cells, the lowest row first.
func masked(w, h int, mask ...int) api.Sheet {
	return api.Sheet{W: w, H: h, Mask: mask}
}

func edge(px, py, qx, qy int) api.Edge {
	return api.Edge{P: api.Point{X: px, Y: py}, Q: api.Point{X: qx, Y: qy}}
}

func crease(kind, px, py, qx, qy int) api.Crease {
	return api.Crease{E: edge(px, py, qx, qy), Kind: kind}
}

// with these creases.
func with(s api.Sheet, creases ...api.Crease) api.Sheet {
	s.Creases = creases
	return s
}

// there: is a triangle there?
func there(s api.Sheet, t api.Tri) bool {
	return 0 <= t.X && t.X < s.W && 0 <= t.Y && t.Y < s.H && s.Mask[t.Y*s.W+t.X]&(1<<t.K) != 0
}

// all triangles of a sheet, in no order that matters.
func all(s api.Sheet) []api.Tri {
	var out []api.Tri
	for x := range s.W {
		for y := range s.H {
			for k := range 4 {
				if t := (api.Tri{X: x, Y: y, K: k}); there(s, t) {
					out = append(out, t)
				}
			}
		}
	}
	return out
}

// neighbours of a triangle that are there.
func neighbours(s api.Sheet, t api.Tri) []api.Tri {
	var out []api.Tri
	edges, _ := grid.Edges(t)
	for _, e := range edges {
		if u, _ := grid.Across(t, e); there(s, u) {
			out = append(out, u)
		}
	}
	return out
}

// onePiece: labels are handed on from neighbour to neighbour until nothing changes.
func onePiece(s api.Sheet) bool {
	label := map[api.Tri]int{}
	for i, t := range all(s) {
		label[t] = i
	}
	for changed := true; changed; {
		changed = false
		for _, t := range all(s) {
			for _, u := range neighbours(s, t) {
				if label[u] < label[t] {
					label[t], changed = label[u], true
				}
			}
		}
	}
	for _, l := range label {
		if l != 0 {
			return false
		}
	}
	return len(label) > 0
}

// inner: all edges on two triangles that are there, rising.
func inner(s api.Sheet) []api.Edge {
	var out []api.Edge
	for _, t := range all(s) {
		edges, _ := grid.Edges(t)
		for _, e := range edges {
			if u, _ := grid.Across(t, e); there(s, u) {
				out = append(out, e)
			}
		}
	}
	slices.SortFunc(out, func(a, b api.Edge) int {
		return cmp.Or(cmp.Compare(a.P.X, b.P.X), cmp.Compare(a.P.Y, b.P.Y), cmp.Compare(a.Q.X, b.Q.X), cmp.Compare(a.Q.Y, b.Q.Y))
	})
	return slices.Compact(out)
}

// creasedAt: kinds in turn on each edge that is chosen.
func creasedAt(s api.Sheet, chosen func(i int) bool) api.Sheet {
	s.Creases = nil
	for i, e := range inner(s) {
		if chosen(i) {
			s.Creases = append(s.Creases, api.Crease{E: e, Kind: 1 + i%2})
		}
	}
	return s
}

// goodSheets: sheets that may be, at the edges of what may be too.
func goodSheets() map[string]api.Sheet {
	every := func(int) bool { return true }
	return map[string]api.Sheet{
		"one triangle":            masked(1, 1, 4),
		"one cell":                full(1, 1),
		"one cell, creased":       creasedAt(full(1, 1), every),
		"three of four":           with(masked(1, 1, 7), crease(api.Mountain, 1, 1, 2, 0)),
		"valley":                  with(full(2, 1), crease(api.Valley, 2, 0, 2, 2)),
		"joined at a side":        masked(2, 1, 2, 8),
		"empty cells around":      masked(3, 3, 0, 0, 0, 0, 9, 0, 0, 0, 0),
		"a ring":                  creasedAt(masked(3, 3, 15, 15, 15, 15, 0, 15, 15, 15, 15), every),
		"widest":                  creasedAt(full(api.MaxSide, 1), every),
		"highest":                 creasedAt(full(1, api.MaxSide), every),
		"greatest":                full(api.MaxSide, api.MaxSide),
		"greatest, creased":       creasedAt(full(api.MaxSide, api.MaxSide), every),
		"some creases":            creasedAt(full(3, 2), func(i int) bool { return i%3 == 1 }),
		"no creases, but no nil":  with(full(2, 2), []api.Crease{}...),
		"rows that are not alike": masked(2, 3, 15, 13, 11, 15, 14, 13),
	}
}

// wrongSheets: sheets that may not be, each for one reason.
func wrongSheets() map[string]api.Sheet {
	out := map[string]api.Sheet{
		"nothing":                  {},
		"no width":                 masked(0, 1),
		"no height":                masked(1, 0),
		"too wide":                 full(api.MaxSide+1, 1),
		"too high":                 full(1, api.MaxSide+1),
		"width below 0":            masked(-1, 1, 15),
		"both below 0":             masked(-1, -1, 15),
		"product of 64 bits is 0":  masked(1<<32, 1<<32),
		"product of 64 bits is 1":  masked(-1<<63+1, -1<<63+1, 15),
		"least numbers":            masked(-1<<63, -1<<63),
		"greatest numbers":         masked(1<<63-1, 1<<63-1, 15),
		"no mask":                  masked(1, 1),
		"mask too short":           masked(2, 2, 15, 15, 15),
		"mask too long":            masked(2, 2, 15, 15, 15, 15, 0),
		"mask number below 0":      masked(2, 1, 15, -1),
		"mask number above 15":     masked(2, 1, 15, 16),
		"mask number far above 15": masked(1, 1, 1<<62+15),
		"no triangle":              masked(2, 2, 0, 0, 0, 0),
		"joined at a middle":       masked(1, 1, 5),
		"joined at a corner":       masked(2, 2, 15, 0, 0, 15),
		"joined at another corner": masked(2, 2, 0, 15, 15, 0),
		"not joined at a side":     masked(2, 1, 8, 2),
		"a gap":                    masked(3, 1, 15, 0, 15),
		"a row apart":              masked(1, 3, 15, 0, 15),
	}
	for name, c := range wrongCreases() {
		out[name] = with(masked(2, 2, 15, 15, 15, 7), c...)
	}
	return out
}

// wrongCreases of a sheet of 2 and 2 cells that lacks the triangle at its upper right cell's west.
func wrongCreases() map[string][]api.Crease {
	one, two := crease(1, 0, 0, 1, 1), crease(2, 2, 0, 2, 2)
	return map[string][]api.Crease{
		"falling":                {two, one},
		"falling by Q alone":     {crease(1, 2, 2, 3, 3), crease(1, 2, 2, 3, 1)},
		"falling at the end":     {one, two, crease(1, 0, 2, 1, 1)},
		"twice":                  {one, one},
		"twice, of two kinds":    {one, crease(2, 0, 0, 1, 1)},
		"no kind":                {crease(0, 0, 0, 1, 1)},
		"kind 3":                 {crease(3, 0, 0, 1, 1)},
		"kind below 0":           {crease(-1, 0, 0, 1, 1)},
		"second one's kind":      {one, crease(0, 2, 0, 2, 2)},
		"at the west rim":        {crease(1, 0, 0, 0, 2)},
		"at the south rim":       {crease(1, 0, 0, 2, 0)},
		"at the east rim":        {crease(1, 4, 0, 4, 2)},
		"at the north rim":       {crease(1, 0, 4, 2, 4)},
		"beside what lacks":      {crease(1, 2, 2, 2, 4)},
		"beside what lacks, too": {crease(1, 2, 2, 3, 3)},
		"outside":                {crease(1, 4, 0, 5, 1)},
		"below 0":                {crease(1, -2, -2, -1, -1)},
		"greater point first":    {crease(1, 1, 1, 0, 0)},
		"upright, turned round":  {crease(1, 2, 2, 2, 0)},
		"two edges long":         {crease(1, 0, 0, 2, 2)},
		"two sides long":         {crease(1, 2, 0, 2, 4)},
		"one point":              {crease(1, 1, 1, 1, 1)},
		"zero":                   {{}},
		"no edge":                {crease(1, 1, 1, 1, 3)},
		"far":                    {crease(1, -1<<63, -1<<63, 1<<63-1, 1<<63-1)},
	}
}

// spare: the same sheet in lists with spare room, and a call that tells whether any of it was written to.
func spare(s api.Sheet) (api.Sheet, func(t *testing.T)) {
	mask := append(slices.Clone(s.Mask), 77, 77)
	creases := append(slices.Clone(s.Creases), crease(7, 7, 7, 7, 7), crease(7, 7, 7, 7, 7))
	roomy := s
	roomy.Mask, roomy.Creases = mask[:len(s.Mask)], creases[:len(s.Creases)]
	return roomy, func(t *testing.T) {
		t.Helper()
		if !slices.Equal(mask, append(slices.Clone(s.Mask), 77, 77)) {
			t.Error("the mask that was handed in was changed")
		}
		if !slices.Equal(creases, append(slices.Clone(s.Creases), crease(7, 7, 7, 7, 7), crease(7, 7, 7, 7, 7))) {
			t.Error("the creases that were handed in were changed")
		}
	}
}

// same: are both sheets alike? Lists without elements may be nil or not.
func same(a, b api.Sheet) bool {
	return a.W == b.W && a.H == b.H && slices.Equal(a.Mask, b.Mask) && slices.Equal(a.Creases, b.Creases)
}

func text(lines ...string) string { return strings.Join(lines, "\n") }

// nothing: is it the zero sheet?
func nothing(s api.Sheet) bool { return same(s, api.Sheet{}) }
