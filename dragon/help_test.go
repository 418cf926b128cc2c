package dragon_test

import (
	"iter"
	"slices"

	"pleat/api"
	"pleat/fold"
	"pleat/samples"
)

const m, v = api.Mountain, api.Valley

// kindLists: all lists of n kinds.
func kindLists(n int) iter.Seq[[]int] {
	return func(yield func([]int) bool) {
		for bits := range 1 << n {
			l := make([]int, n)
			for i := range l {
				l[i] = 1 + bits>>i&1
			}
			if !yield(l) {
				return
			}
		}
	}
}

// foldLists: all lists of folds within the limits.
func foldLists() iter.Seq[[]int] {
	return func(yield func([]int) bool) {
		for k := range api.MaxHalves + 1 {
			for folds := range kindLists(k) {
				if !yield(folds) {
					return
				}
			}
		}
	}
}

// changed: the other kind of each.
func changed(kinds []int) []int {
	var out []int
	for _, kind := range kinds {
		if kind == m {
			out = append(out, v)
		} else {
			out = append(out, m)
		}
	}
	return out
}

// modelWord, place by place: one that may be halved so many times has a crease of the fold so many before the last one; what is left tells whose turn it is.
func modelWord(folds []int) []int {
	var out []int
	for place := 1; place < 1<<len(folds); place++ {
		fold, left := len(folds)-1, place
		for left%2 == 0 {
			fold, left = fold-1, left/2
		}
		if left%4 == 1 {
			out = append(out, folds[fold])
		} else {
			out = append(out, changed(folds[fold:fold+1])...)
		}
	}
	return out
}

// modelPath: the ways are numbers, in quarters of a turn from the east on.
func modelPath(word []int) []api.Point {
	at, way := api.Point{}, 0
	out := []api.Point{at}
	for i := range len(word) + 1 {
		if i > 0 && word[i-1] == v {
			way++
		} else if i > 0 {
			way--
		}
		switch way & 3 {
		case 0:
			at.X++
		case 1:
			at.Y++
		case 2:
			at.X--
		case 3:
			at.Y--
		}
		out = append(out, at)
	}
	return out
}

// paperWord: the word of a sheet, one cell high, that is folded in half so: its eastern half goes over its western one, or under it.
func paperWord(folds []int) ([]int, api.Errno) {
	width := 1 << len(folds)
	st, code := fold.Flat(samples.Full(width, 1))
	for _, kind := range folds {
		st, code = fold.Do(st, api.Fold{Line: api.Line{Way: api.Upright, C: width}, Side: 1, Over: kind == v})
		if code != api.OK {
			return nil, code
		}
		width /= 2
	}
	var out []int
	for _, c := range st.Sheet.Creases { // they rise from west to east, one each
		out = append(out, c.Kind)
	}
	return out, code
}

// spare: a list with room behind it, and whether neither has been written to.
func spare(list []int) ([]int, func() bool) {
	all := append(slices.Clone(list), 77, 77, 77)
	before := slices.Clone(all)
	return all[:len(list)], func() bool { return slices.Equal(all, before) }
}

// scribble over a list and its spare room.
func scribble[T any](list []T, with T) {
	list = list[:cap(list)]
	for i := range list {
		list[i] = with
	}
}
