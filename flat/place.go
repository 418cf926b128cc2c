package flat

import (
	"pleat/api"
	"pleat/paper"
)

// placesOf triangles: maps are handed on from the first triangle across all edges, each of them in both directions, and held against what is there already.
func placesOf(p paper.Paper) ([]api.Map, api.Errno) {
	places := make([]api.Map, len(p.Tris))
	places[0] = api.Map{A: 1, D: 1}
	reached := []int{0}
	for n := range len(p.Tris) { // the paper is joined, so the n-th has always been reached
		near := reached[n]
		for _, j := range p.Joints(near) {
			far := p.Beyond(j.E, places[near])
			if places[j.To] == (api.Map{}) { // no map that keeps the grid is zero
				places[j.To] = far
				reached = append(reached, j.To)
			} else if places[j.To] != far {
				return nil, api.ErrTear
			}
		}
	}
	return places, api.OK
}
