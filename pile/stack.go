package pile

import (
	"maps"
	"slices"

	"pleat/api"
	"pleat/paper"
)

// heights of triangles in their stacks, if these are as they must be: rising by their places, none empty, and each triangle in just one, where it comes to.
func (p Pile) heights(stacks []api.Stack) ([]int, bool) {
	heights := slices.Repeat([]int{-1}, len(p.Tris))
	for n, s := range stacks {
		if len(s.Tris) == 0 || n > 0 && paper.CompareTris(stacks[n-1].At, s.At) >= 0 {
			return nil, false
		}
		for height, t := range s.Tris {
			i, there := p.Number(t)
			if !there || heights[i] >= 0 || p.Places[i] != s.At {
				return nil, false
			}
			heights[i] = height
		}
	}
	return heights, !slices.Contains(heights, -1)
}

// Piled: the numbers of the triangles at each place, rising by places.
func (p Pile) Piled() [][]int {
	piled := map[api.Tri][]int{}
	for i, at := range p.Places {
		piled[at] = append(piled[at], i)
	}
	return slices.SortedFunc(maps.Values(piled), func(a, b []int) int {
		return paper.CompareTris(p.Places[a[0]], p.Places[b[0]])
	})
}

// Stacks of triangles, rising by their places, in an order.
func (p Pile) Stacks(above Order) []api.Stack {
	var stacks []api.Stack
	for _, numbers := range p.Piled() {
		slices.SortFunc(numbers, above.Compare)
		stacks = append(stacks, api.Stack{At: p.Places[numbers[0]], Tris: p.named(numbers)})
	}
	return stacks
}

// Compare: what lies lower comes first.
func (above Order) Compare(a, b int) int {
	switch {
	case above(b, a):
		return -1
	case above(a, b):
		return 1
	}
	return 0
}

// named: triangles of these numbers.
func (p Pile) named(numbers []int) []api.Tri {
	tris := make([]api.Tri, 0, len(numbers))
	for _, i := range numbers {
		tris = append(tris, p.Tris[i])
	}
	return tris
}

// State of the paper of a sheet that lies so, in an order; all of it is new memory.
func (p Pile) State(s api.Sheet, above Order) api.State {
	return api.State{Sheet: paper.Copy(s), Maps: slices.Clone(p.Maps), Stacks: p.Stacks(above)}
}
