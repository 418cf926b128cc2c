package paper

import (
	"slices"

	"pleat/api"
)

// Lay a sheet out, if it may be.
func Lay(s api.Sheet) (Paper, bool) {
	if !MaySide(s.W) || !MaySide(s.H) || !mayMask(s) {
		return Paper{}, false
	}
	p := Of(s.W, s.H, s.Mask)
	if !p.Joined() || !p.mayCreases(s.Creases) {
		return Paper{}, false
	}
	for _, c := range s.Creases {
		p.kinds[c.E] = c.Kind
	}
	return p, true
}

// MaySide: may a sheet have so many cells in a row, or rows?
func MaySide(n int) bool { return 1 <= n && n <= api.MaxSide }

func mayMask(s api.Sheet) bool {
	if len(s.Mask) != s.W*s.H {
		return false
	}
	for _, n := range s.Mask {
		if n < 0 || n > 15 {
			return false
		}
	}
	return true
}

func (p Paper) mayCreases(creases []api.Crease) bool {
	for i, c := range creases {
		if c.Kind != api.Mountain && c.Kind != api.Valley || !p.Inner(c.E) {
			return false
		}
		if i > 0 && CompareEdges(creases[i-1].E, c.E) >= 0 {
			return false
		}
	}
	return true
}

// Copy of a sheet that shares nothing with it.
func Copy(s api.Sheet) api.Sheet {
	s.Mask, s.Creases = slices.Clone(s.Mask), slices.Clone(s.Creases)
	return s
}
