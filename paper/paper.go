// Package paper: a sheet's triangles at work: which of them are there, and which of them meet at an edge.
package paper

import (
	"pleat/api"
	"pleat/grid"
)

// Paper is made of W, H and Mask of a sheet alone: what creases are told of it may still be wrong.
type Paper struct {
	Tris []api.Tri          // by Y, then X, then K
	at   map[api.Edge][]int // of each edge which of Tris have it
}

// Of cells w wide and h high; mask has a number for each of them.
func Of(w, h int, mask []int) Paper {
	p := Paper{at: map[api.Edge][]int{}}
	for y := range h {
		for x := range w {
			for k := range 4 {
				if mask[y*w+x]>>k&1 == 1 {
					p.add(api.Tri{X: x, Y: y, K: k})
				}
			}
		}
	}
	return p
}

func (p *Paper) add(t api.Tri) {
	for _, e := range edges(t) {
		p.at[e] = append(p.at[e], len(p.Tris))
	}
	p.Tris = append(p.Tris, t)
}

// edges of a triangle within a sheet, which is never too far to be.
func edges(t api.Tri) [3]api.Edge {
	all, _ := grid.Edges(t)
	return all
}

// Inner: is it an edge on two triangles that are there?
func (p Paper) Inner(e api.Edge) bool { return len(p.at[e]) == 2 }

// Joined: is some triangle there, and does one come from it to all others across edges?
func (p Paper) Joined() bool {
	if len(p.Tris) == 0 {
		return false
	}
	reached := make([]bool, len(p.Tris))
	reached[0] = true
	ways := []int{0} // all that were reached, in the order in which they were
	for i := 0; i < len(ways); i++ {
		for _, e := range edges(p.Tris[ways[i]]) {
			for _, next := range p.at[e] {
				if !reached[next] {
					reached[next] = true
					ways = append(ways, next)
				}
			}
		}
	}
	return len(ways) == len(p.Tris)
}
