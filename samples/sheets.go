package samples

import (
	"slices"

	"pleat/api"
)

// Good: sheets that may be, at the edges of what may be too.
func Good() map[string]api.Sheet {
	every := func(int) bool { return true }
	return map[string]api.Sheet{
		"one triangle":            Masked(1, 1, 4),
		"one cell":                Full(1, 1),
		"one cell, creased":       Creased(Full(1, 1), every),
		"three of four":           With(Masked(1, 1, 7), Crease(api.Mountain, 1, 1, 2, 0)),
		"valley":                  With(Full(2, 1), Crease(api.Valley, 2, 0, 2, 2)),
		"joined at a side":        Masked(2, 1, 2, 8),
		"empty cells around":      Masked(3, 3, 0, 0, 0, 0, 9, 0, 0, 0, 0),
		"a ring":                  Creased(Masked(3, 3, 15, 15, 15, 15, 0, 15, 15, 15, 15), every),
		"widest":                  Creased(Full(api.MaxSide, 1), every),
		"highest":                 Creased(Full(1, api.MaxSide), every),
		"greatest":                Full(api.MaxSide, api.MaxSide),
		"greatest, creased":       Creased(Full(api.MaxSide, api.MaxSide), every),
		"some creases":            Creased(Full(3, 2), func(i int) bool { return i%3 == 1 }),
		"no creases, but no nil":  With(Full(2, 2), []api.Crease{}...),
		"rows that are not alike": Masked(2, 3, 15, 13, 11, 15, 14, 13),
	}
}

// Many sheets that may be: the good ones, and a run of sheets with cells that lack triangles, some edges of them creased.
func Many() []api.Sheet {
	var out []api.Sheet
	for _, s := range Good() {
		out = append(out, s)
	}
	for n := range 400 {
		s := Full(1+n%4, 1+n/4%3)
		s.Mask[n%len(s.Mask)] &= n * 7
		s.Mask[n*n%len(s.Mask)] &= n
		out = append(out, Creased(s, func(i int) bool { return (i*i+n*i+n)%(2+n%3) == 0 }))
	}
	return slices.DeleteFunc(out, func(s api.Sheet) bool { return pieces(s) != 1 })
}

// pieces of a sheet, whatever its creases.
func pieces(s api.Sheet) int {
	return Distinct(Labels(Tris(s), func(t api.Tri) []api.Tri { return Neighbours(s, t) }))
}

// Wrong: sheets that may not be, each for one reason.
func Wrong() map[string]api.Sheet {
	out := map[string]api.Sheet{
		"nothing":                  {},
		"no width":                 Masked(0, 1),
		"no height":                Masked(1, 0),
		"too wide":                 Full(api.MaxSide+1, 1),
		"too high":                 Full(1, api.MaxSide+1),
		"width below 0":            Masked(-1, 1, 15),
		"both below 0":             Masked(-1, -1, 15),
		"product of 64 bits is 0":  Masked(1<<32, 1<<32),
		"product of 64 bits is 1":  Masked(-1<<63+1, -1<<63+1, 15),
		"least numbers":            Masked(-1<<63, -1<<63),
		"greatest numbers":         Masked(1<<63-1, 1<<63-1, 15),
		"no mask":                  Masked(1, 1),
		"mask too short":           Masked(2, 2, 15, 15, 15),
		"mask too long":            Masked(2, 2, 15, 15, 15, 15, 0),
		"mask number below 0":      Masked(2, 1, 15, -1),
		"mask number above 15":     Masked(2, 1, 15, 16),
		"mask number far above 15": Masked(1, 1, 1<<62+15),
		"no triangle":              Masked(2, 2, 0, 0, 0, 0),
		"joined at a middle":       Masked(1, 1, 5),
		"joined at a corner":       Masked(2, 2, 15, 0, 0, 15),
		"joined at another corner": Masked(2, 2, 0, 15, 15, 0),
		"not joined at a side":     Masked(2, 1, 8, 2),
		"a gap":                    Masked(3, 1, 15, 0, 15),
		"a row apart":              Masked(1, 3, 15, 0, 15),
	}
	for name, c := range wrongCreases() {
		out[name] = With(Masked(2, 2, 15, 15, 15, 7), c...)
	}
	return out
}

// wrongCreases of a sheet of 2 and 2 cells that lacks the triangle at its upper right cell's west.
func wrongCreases() map[string][]api.Crease {
	one, two := Crease(1, 0, 0, 1, 1), Crease(2, 2, 0, 2, 2)
	return map[string][]api.Crease{
		"falling":                {two, one},
		"falling by Q alone":     {Crease(1, 2, 2, 3, 3), Crease(1, 2, 2, 3, 1)},
		"falling at the end":     {one, two, Crease(1, 0, 2, 1, 1)},
		"twice":                  {one, one},
		"twice, of two kinds":    {one, Crease(2, 0, 0, 1, 1)},
		"no kind":                {Crease(0, 0, 0, 1, 1)},
		"kind 3":                 {Crease(3, 0, 0, 1, 1)},
		"kind below 0":           {Crease(-1, 0, 0, 1, 1)},
		"second one's kind":      {one, Crease(0, 2, 0, 2, 2)},
		"at the west rim":        {Crease(1, 0, 0, 0, 2)},
		"at the south rim":       {Crease(1, 0, 0, 2, 0)},
		"at the east rim":        {Crease(1, 4, 0, 4, 2)},
		"at the north rim":       {Crease(1, 0, 4, 2, 4)},
		"beside what lacks":      {Crease(1, 2, 2, 2, 4)},
		"beside what lacks, too": {Crease(1, 2, 2, 3, 3)},
		"outside":                {Crease(1, 4, 0, 5, 1)},
		"below 0":                {Crease(1, -2, -2, -1, -1)},
		"greater point first":    {Crease(1, 1, 1, 0, 0)},
		"upright, turned round":  {Crease(1, 2, 2, 2, 0)},
		"two edges long":         {Crease(1, 0, 0, 2, 2)},
		"two sides long":         {Crease(1, 2, 0, 2, 4)},
		"one point":              {Crease(1, 1, 1, 1, 1)},
		"zero":                   {{}},
		"no edge":                {Crease(1, 1, 1, 1, 3)},
		"far":                    {Crease(1, -1<<63, -1<<63, 1<<63-1, 1<<63-1)},
	}
}
