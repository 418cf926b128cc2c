package paper

import (
	"slices"

	"pleat/api"
)

// Crossed: may one come from a triangle to the one beyond a joint?
type Crossed func(near int, j Joint) bool

// Parts: of each triangle the number of its part, from 0 on in the order of their first triangles: a part's come to one another across edges that may be crossed, from both sides or from none.
func (p Paper) Parts(crossed Crossed) []int {
	part := slices.Repeat([]int{-1}, len(p.Tris))
	count := 0
	for i := range p.Tris {
		if part[i] < 0 {
			p.spread(part, i, count, crossed)
			count++
		}
	}
	return part
}

// spread the number of a part from one triangle on to all that belong to it.
func (p Paper) spread(part []int, first, number int, crossed Crossed) {
	part[first] = number
	reached := []int{first}
	for n := 0; n < len(reached); n++ {
		for _, j := range p.Joints(reached[n]) {
			if part[j.To] < 0 && crossed(reached[n], j) {
				part[j.To] = number
				reached = append(reached, j.To)
			}
		}
	}
}

// Gathered: the triangles of each part, told by the number of each triangle's part as Parts has it.
func (p Paper) Gathered(part []int) [][]api.Tri {
	var parts [][]api.Tri
	for i, n := range part {
		if n == len(parts) { // they are numbered as their first triangles come
			parts = append(parts, nil)
		}
		parts[n] = append(parts[n], p.Tris[i])
	}
	return parts
}

// Faces: of each triangle the number of its face, what creases part.
func (p Paper) Faces() []int {
	return p.Parts(func(_ int, j Joint) bool { return p.Kind(j.E) == 0 })
}

// Joined: is some triangle there, and does one come from it to all others across edges?
func (p Paper) Joined() bool {
	parts := p.Parts(func(int, Joint) bool { return true })
	return len(parts) > 0 && slices.Max(parts) == 0
}
