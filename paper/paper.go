// Package paper: a sheet's triangles at work: which of them are there, which of them meet at an edge, and what is creased.
package paper

import (
	"slices"

	"pleat/api"
	"pleat/grid"
)

// Paper of a sheet.
type Paper struct {
	Tris  []api.Tri          // by Y, then X, then K
	at    map[api.Edge][]int // of each edge which of Tris have it
	kinds map[api.Edge]int   // of each edge that has a crease
}

// Of cells w wide and h high, without creases; mask has a number for each of them. The triangles need not be joined.
func Of(w, h int, mask []int) Paper {
	p := Paper{at: map[api.Edge][]int{}, kinds: map[api.Edge]int{}}
	for y := range h {
		for x := range w {
			for k := range 4 {
				if mask[y*w+x]>>k&1 == 1 {
					p.add(api.Tri{X: x, Y: y, K: k})
				}
			}
		}
	}
	return p
}

func (p *Paper) add(t api.Tri) {
	for _, e := range edges(t) {
		p.at[e] = append(p.at[e], len(p.Tris))
	}
	p.Tris = append(p.Tris, t)
}

// edges of a triangle within a sheet, which is never too far to be.
func edges(t api.Tri) [3]api.Edge {
	all, _ := grid.Edges(t)
	return all
}

// Number of a triangle among Tris, if it is there.
func (p Paper) Number(t api.Tri) (int, bool) {
	return slices.BinarySearchFunc(p.Tris, t, CompareTris)
}

// Inner: is it an edge on two triangles that are there?
func (p Paper) Inner(e api.Edge) bool { return len(p.at[e]) == 2 }

// Edges: how many its triangles have, each counted once.
func (p Paper) Edges() int { return len(p.at) }

// Kind of the crease at an edge; 0: there is none.
func (p Paper) Kind(e api.Edge) int { return p.kinds[e] }
