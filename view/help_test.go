package view_test

import (
	"cmp"
	"slices"

	"pleat/api"
	"pleat/fold"
	"pleat/grid"
	"pleat/samples"
	"pleat/stack"
)

// die: numbers that look drawn, the same each time.
type die uint64

func (d *die) below(most int) int {
	*d = *d*6364136223846793005 + 1442695040888963407
	return int(uint64(*d>>33) % uint64(most))
}

// table: a state, taken as the chapter's words have it, one by one.
type table struct {
	api.State
	tris   []api.Tri
	places []api.Tri // to which the maps bring the triangles
}

func lying(st api.State) table {
	b := table{State: st, tris: samples.Ordered(st.Sheet)}
	for i, t := range b.tris {
		at, _ := grid.Move(st.Maps[i], t)
		b.places = append(b.places, at)
	}
	return b
}

// at a place: which triangles come to lie there, by their numbers.
func (b table) at(place api.Tri) []int {
	var out []int
	for i, p := range b.places {
		if p == place {
			out = append(out, i)
		}
	}
	return out
}

// rank of a triangle in the stack where it lies.
func (b table) rank(i int) int {
	for _, s := range b.Stacks {
		if n := slices.Index(s.Tris, b.tris[i]); n >= 0 {
			return n
		}
	}
	return -1
}

// uppermost at a place: the one that lies above all others; -1: no paper lies there.
func (b table) uppermost(place api.Tri) int {
	up := -1
	for _, i := range b.at(place) {
		if up < 0 || b.rank(i) > b.rank(up) {
			up = i
		}
	}
	return up
}

func (b table) backAt(i int) bool { return !samples.FrontAbove(b.Maps[i]) }

// all places where paper lies, rising by Y, X, K.
func (b table) all() []api.Tri {
	out := slices.Clone(b.places)
	slices.SortFunc(out, func(a, b api.Tri) int {
		return cmp.Or(cmp.Compare(a.Y, b.Y), cmp.Compare(a.X, b.X), cmp.Compare(a.K, b.K))
	})
	return slices.Compact(out)
}

// wantedTop: what Top should answer.
func wantedTop(st api.State) ([]api.Seen, api.Errno) {
	if !stack.May(st) {
		return nil, api.ErrState
	}
	b := lying(st)
	var out []api.Seen
	for _, place := range b.all() {
		i := b.uppermost(place)
		out = append(out, api.Seen{At: place, Tri: b.tris[i], Back: b.backAt(i)})
	}
	return out, api.OK
}

// wantedThick: what Thick should answer.
func wantedThick(st api.State) (int, int, api.Errno) {
	if !stack.May(st) {
		return 0, 0, api.ErrState
	}
	b := lying(st)
	most := 0
	for _, place := range b.all() {
		most = max(most, len(b.at(place)))
	}
	return most, len(b.all()), api.OK
}

// wantedPicture: what Picture should answer.
func wantedPicture(st api.State) (string, api.Errno) {
	if !stack.May(st) {
		return "", api.ErrState
	}
	b := lying(st)
	byX := func(a, b api.Tri) int { return a.X - b.X }
	byY := func(a, b api.Tri) int { return a.Y - b.Y }
	west, east := slices.MinFunc(b.places, byX).X, slices.MaxFunc(b.places, byX).X
	low, high := slices.MinFunc(b.places, byY).Y, slices.MaxFunc(b.places, byY).Y
	out := ""
	for y := high; y >= low; y-- {
		for x := west; x <= east; x++ {
			if x > west {
				out += " "
			}
			out += b.cell(x, y)
		}
		out += "\n"
	}
	return out, api.OK
}

// cell of a picture.
func (b table) cell(x, y int) string {
	covered, backs := 0, 0
	for k, sum := range []int{1, 2, 4, 8} {
		if i := b.uppermost(api.Tri{X: x, Y: y, K: k}); i >= 0 {
			covered += sum
			if b.backAt(i) {
				backs += sum
			}
		}
	}
	if covered == 0 {
		return ".."
	}
	const letters = "0123456789abcdef"
	return letters[covered:covered+1] + letters[backs:backs+1]
}

// at a line of a way: all layers of a side.
func at(way, c, side int, over bool) api.Fold {
	return api.Fold{Line: api.Line{Way: way, C: c}, Side: side, Over: over}
}

// drawn: sheets, some of which lack triangles, folded some times, and turned over here and there.
func drawn(d *die, count int) []api.State {
	var out []api.State
	for len(out) < count {
		s := samples.Full(1+d.below(4), 1+d.below(3))
		for range d.below(4) {
			s.Mask[d.below(len(s.Mask))] &= d.below(16)
		}
		st, code := fold.Flat(s)
		if code != api.OK {
			continue
		}
		for range d.below(5) {
			f := at(d.below(4), 2*d.below(5)-2, 1-2*d.below(2), d.below(2) == 0)
			if d.below(3) == 0 {
				f.Layers, f.At = 1+d.below(2), st.Stacks[d.below(len(st.Stacks))].At
			}
			if next, e := fold.Do(st, f); e == api.OK {
				st = next
			}
			if d.below(6) == 0 {
				st, _ = stack.Turn(st)
			}
		}
		out = append(out, st)
	}
	return out
}
