package vertex

import "pleat/api"

// heights: how high each of the first sectors lies among them. A good order of all sectors is good for the first ones too, so that orders are made by laying one sector after the other among those that lie.
type heights []int

// laid: with one sector more, at this height.
func (h heights) laid(height int) heights {
	out := make(heights, 0, len(h)+1)
	for _, had := range h {
		if had >= height {
			had++
		}
		out = append(out, had)
	}
	return append(out, height)
}

// between: does sector k lie between the sectors a and b?
func (h heights) between(k, a, b int) bool {
	return min(h[a], h[b]) < h[k] && h[k] < max(h[a], h[b])
}

// goes: has some good order of all sectors these kinds?
func (d disc) goes(kinds []int) bool {
	return d.goesOn(kinds, nil)
}

// goesOn: can the sectors that do not lie yet be laid among those that do?
func (d disc) goesOn(kinds []int, h heights) bool {
	if len(h) == len(d) {
		return true
	}
	for height := range len(h) + 1 {
		next := h.laid(height)
		if d.good(kinds, next) && d.goesOn(kinds, next) {
			return true
		}
	}
	return false
}

// good: is all well at the creases of which both sectors lie, if it was so without the last sector?
func (d disc) good(kinds []int, h heights) bool {
	last := len(h) - 1
	for j := range d {
		if !d.lies(j, h) {
			continue
		}
		if d.pierced(j, last, h) {
			return false
		}
		if a, b := d.sectors(j); a != last && b != last {
			continue
		}
		if d.kind(j, h) != kinds[j] || d.crossed(j, h) {
			return false
		}
	}
	return true
}

// lies: are both sectors of crease j among those that lie?
func (d disc) lies(j int, h heights) bool {
	a, b := d.sectors(j)
	return a < len(h) && b < len(h)
}

// kind of crease j. Sectors of odd numbers lie with their back side above.
func (d disc) kind(j int, h heights) int {
	a, b := d.sectors(j)
	if (h[b] > h[a]) == (a%2 == 0) {
		return api.Valley
	}
	return api.Mountain
}

// pierced: does sector k go through crease j?
func (d disc) pierced(j, k int, h heights) bool {
	a, b := d.sectors(j)
	return d.past(k, j) && h.between(k, a, b)
}

// crossed: does anything that lies go through crease j, a sector or another crease?
func (d disc) crossed(j int, h heights) bool {
	for k := range h {
		if d.pierced(j, k, h) {
			return true
		}
	}
	for i := range d {
		if d.meet(i, j) && d.lies(i, h) && d.tangled(i, j, h) {
			return true
		}
	}
	return false
}

// tangled: does just one sector of crease i lie between those of crease j?
func (d disc) tangled(i, j int, h heights) bool {
	a, b := d.sectors(i)
	c, e := d.sectors(j)
	return h.between(a, c, e) != h.between(b, c, e)
}
