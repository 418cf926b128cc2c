package dragon_test

import (
	"math"
	"slices"
	"testing"

	"pleat/api"
	"pleat/dragon"
	"pleat/stamps"
)

func TestP10_Example(t *testing.T) {
	word, code := dragon.Word([]int{v, v})
	if code != api.OK || !slices.Equal(word, []int{v, v, m}) {
		t.Error(word, code)
	}
	path, code := dragon.Path([]int{v, v})
	if code != api.OK || !slices.Equal(path, []api.Point{{X: 0, Y: 0}, {X: 1, Y: 0}, {X: 1, Y: 1}, {X: 0, Y: 1}, {X: 0, Y: 2}}) {
		t.Error(path, code)
	}
}

func TestP10_1_Word(t *testing.T) {
	for name, c := range map[string]struct{ folds, want []int }{
		"none":                {nil, nil},
		"none, empty":         {[]int{}, nil},
		"a mountain":          {[]int{m}, []int{m}},
		"a valley":            {[]int{v}, []int{v}},
		"first a mountain":    {[]int{m, v}, []int{v, m, m}},
		"last a mountain":     {[]int{v, m}, []int{m, v, v}},
		"two mountains":       {[]int{m, m}, []int{m, m, v}},
		"three valleys":       {[]int{v, v, v}, []int{v, v, m, v, v, m, m}},
		"the first unlike":    {[]int{m, v, v}, []int{v, v, m, m, v, m, m}},
		"the last one unlike": {[]int{v, v, m}, []int{m, v, v, v, m, m, v}},
	} {
		if got, code := dragon.Word(c.folds); code != api.OK || !slices.Equal(got, c.want) {
			t.Errorf("%s: %v, %d", name, got, code)
		}
	}
}

func TestP10_1_EveryWord(t *testing.T) {
	for folds := range foldLists() {
		if got, code := dragon.Word(folds); code != api.OK || !slices.Equal(got, modelWord(folds)) {
			t.Fatalf("%v: %v, %d", folds, got, code)
		}
	}
}

// Paper that is folded so has such creases.
func TestP10_1_AsPaper(t *testing.T) {
	for k := range 4 {
		for folds := range kindLists(k) {
			want, code := paperWord(folds)
			got, _ := dragon.Word(folds)
			if code != api.OK || !slices.Equal(got, want) {
				t.Errorf("%v: %v, wanted %v, %d", folds, got, want, code)
			}
		}
	}
}

// And the strip may lie in one pile.
func TestP10_1_AsStamps(t *testing.T) {
	for k := range 4 {
		for folds := range kindLists(k) {
			word, _ := dragon.Word(folds)
			orders, code := stamps.By(word)
			pile := []int{1}
			for i, kind := range folds { // each layer becomes two, half as long
				pile = halved(pile, 1<<k>>i, kind)
			}
			if code != api.OK || !slices.ContainsFunc(orders, func(l []int) bool { return slices.Equal(l, pile) }) {
				t.Errorf("%v: %v of %v, %d", folds, pile, orders, code)
			}
		}
	}
}

// halved: a pile whose layers have so many stamps each, told by their lowest one, after one more fold.
func halved(pile []int, long, kind int) []int {
	var stay, move []int
	for _, lowest := range pile {
		west, east := lowest, lowest+long/2
		if (lowest-1)/long%2 == 1 { // it lies turned over
			west, east = east, west
		}
		stay, move = append(stay, west), append(move, east)
	}
	slices.Reverse(move)
	if kind == v {
		return append(stay, move...)
	}
	return append(move, stay...)
}

// wrongFolds: what is refused.
func wrongFolds() map[string]struct {
	folds []int
	want  api.Errno
} {
	return map[string]struct {
		folds []int
		want  api.Errno
	}{
		"eleven":              {slices.Repeat([]int{v}, 11), api.ErrSize},
		"eleven wrong ones":   {make([]int, 11), api.ErrSize},
		"very many":           {slices.Repeat([]int{m}, 1<<20), api.ErrSize},
		"no kind":             {[]int{0}, api.ErrKind},
		"past them":           {[]int{3}, api.ErrKind},
		"below 0":             {[]int{v, -1}, api.ErrKind},
		"least":               {[]int{math.MinInt, m}, api.ErrKind},
		"greatest":            {[]int{m, math.MaxInt, v}, api.ErrKind},
		"the first of ten":    {append([]int{3}, slices.Repeat([]int{v}, 9)...), api.ErrKind},
		"the last one of ten": {append(slices.Repeat([]int{v}, 9), 0), api.ErrKind},
	}
}

func TestP10_1_Refused(t *testing.T) {
	for name, c := range wrongFolds() {
		if got, code := dragon.Word(c.folds); code != c.want || len(got) != 0 {
			t.Errorf("%s: %v, %d", name, got, code)
		}
	}
	if got, code := dragon.Word(slices.Repeat([]int{m}, 10)); code != api.OK || len(got) != 1023 {
		t.Error(len(got), code)
	}
}

// What is folded is told by its word.
func TestP10_2_ThereAndBack(t *testing.T) {
	for folds := range foldLists() {
		if got, code := dragon.Folds(modelWord(folds)); code != api.OK || !slices.Equal(got, folds) {
			t.Fatalf("%v: %v, %d", folds, got, code)
		}
	}
}

func TestP10_2_EveryListOfKinds(t *testing.T) {
	for k := range 5 {
		come := 0
		for word := range kindLists(1<<k - 1) {
			var want []int
			wanted := api.ErrNone
			for folds := range kindLists(k) {
				if slices.Equal(modelWord(folds), word) {
					want, wanted = folds, api.OK
					come++
				}
			}
			if got, code := dragon.Folds(word); code != wanted || !slices.Equal(got, want) {
				t.Fatalf("%v: %v, %d", word, got, code)
			}
		}
		if come != 1<<k {
			t.Errorf("%d words by %d folds", come, k)
		}
	}
}

// With one kind changed it is a word no more, unless it is the one in the middle: that is the first fold's.
func TestP10_2_OneChanged(t *testing.T) {
	for k := 1; k <= api.MaxHalves; k++ {
		folds := slices.Repeat([]int{v, m}, k)[:k]
		for i := range 1<<k - 1 {
			word := modelWord(folds)
			word[i] = m + v - word[i]
			want, wanted := []int(nil), api.ErrNone
			if i == 1<<(k-1)-1 {
				want, wanted = append(changed(folds[:1]), folds[1:]...), api.OK
			}
			if got, code := dragon.Folds(word); code != wanted || !slices.Equal(got, want) {
				t.Fatalf("%d folds, place %d: %v, %d", k, i+1, got, code)
			}
		}
	}
}

func TestP10_2_Refused(t *testing.T) {
	for name, c := range map[string]struct {
		word []int
		want api.Errno
	}{
		"two":                       {[]int{v, v}, api.ErrSize},
		"four":                      {[]int{v, v, m, v}, api.ErrSize},
		"two wrong ones":            {[]int{0, 0}, api.ErrSize},
		"of eleven folds":           {modelWord(slices.Repeat([]int{v}, 11)), api.ErrSize},
		"very many":                 {make([]int, 1<<20-1), api.ErrSize},
		"no kind":                   {[]int{0}, api.ErrKind},
		"past them":                 {[]int{3}, api.ErrKind},
		"below 0":                   {[]int{v, -1, m}, api.ErrKind},
		"least":                     {[]int{math.MinInt, v, m}, api.ErrKind},
		"greatest":                  {[]int{v, v, math.MaxInt}, api.ErrKind},
		"no word, and a wrong kind": {[]int{v, v, v, v, v, v, 3}, api.ErrKind},
		"three valleys":             {[]int{v, v, v}, api.ErrNone},
		"odd places not by turns":   {[]int{v, v, m, v, m, m, v}, api.ErrNone},
		"even places not by turns":  {[]int{v, v, m, v, v, v, m}, api.ErrNone},
	} {
		if got, code := dragon.Folds(c.word); code != c.want || len(got) != 0 {
			t.Errorf("%s: %v, %d", name, got, code)
		}
	}
	for n := range 2100 {
		wanted := api.ErrSize
		if slices.Contains([]int{0, 1, 3, 7, 15, 31, 63, 127, 255, 511, 1023}, n) {
			wanted = api.ErrNone
		}
		if n < 2 {
			wanted = api.OK
		}
		if got, code := dragon.Folds(slices.Repeat([]int{v}, n)); code != wanted || wanted != api.OK && len(got) != 0 {
			t.Errorf("%d valleys: %v, %d", n, got, code)
		}
	}
	if got, code := dragon.Folds([]int{}); code != api.OK || len(got) != 0 {
		t.Error(got, code)
	}
}

// What comes of it: a word that is read from its end, all kinds changed, is one, too.
func TestP10_2_ReadFromItsEnd(t *testing.T) {
	for folds := range foldLists() {
		if len(folds) == 0 {
			continue
		}
		word, _ := dragon.Word(folds)
		slices.Reverse(word)
		want := append(changed(folds[:1]), folds[1:]...) // but for the middle, which is changed, all of it is as it was
		if got, code := dragon.Folds(changed(word)); code != api.OK || !slices.Equal(got, want) {
			t.Fatalf("%v: %v, %d", folds, got, code)
		}
	}
}

func TestP10_3_Path(t *testing.T) {
	for name, c := range map[string]struct {
		folds []int
		want  []api.Point
	}{
		"none":        {nil, []api.Point{{X: 0, Y: 0}, {X: 1, Y: 0}}},
		"a valley":    {[]int{v}, []api.Point{{X: 0, Y: 0}, {X: 1, Y: 0}, {X: 1, Y: 1}}},
		"a mountain":  {[]int{m}, []api.Point{{X: 0, Y: 0}, {X: 1, Y: 0}, {X: 1, Y: -1}}},
		"unlike":      {[]int{v, m}, []api.Point{{X: 0, Y: 0}, {X: 1, Y: 0}, {X: 1, Y: -1}, {X: 2, Y: -1}, {X: 2, Y: 0}}},
		"unlike, too": {[]int{m, v}, []api.Point{{X: 0, Y: 0}, {X: 1, Y: 0}, {X: 1, Y: 1}, {X: 2, Y: 1}, {X: 2, Y: 0}}},
	} {
		if got, code := dragon.Path(c.folds); code != api.OK || !slices.Equal(got, c.want) {
			t.Errorf("%s: %v, %d", name, got, code)
		}
	}
	for folds := range foldLists() {
		if got, code := dragon.Path(folds); code != api.OK || !slices.Equal(got, modelPath(modelWord(folds))) {
			t.Fatalf("%v: %v, %d", folds, got, code)
		}
	}
}

func TestP10_3_Refused(t *testing.T) {
	for name, c := range wrongFolds() {
		if got, code := dragon.Path(c.folds); code != c.want || len(got) != 0 {
			t.Errorf("%s: %v, %d", name, got, code)
		}
	}
}

// What comes of it: no step is gone twice, and the way ends as far away as the root of how many there are.
func TestP10_3_NoStepTwice(t *testing.T) {
	for folds := range foldLists() {
		path, _ := dragon.Path(folds)
		gone := map[[2]api.Point]bool{}
		for i := range len(path) - 1 {
			to, fro := [2]api.Point{path[i], path[i+1]}, [2]api.Point{path[i+1], path[i]}
			if gone[to] || gone[fro] {
				t.Fatalf("%v: %v is gone twice", folds, to)
			}
			gone[to] = true
		}
		if end := path[len(path)-1]; end.X*end.X+end.Y*end.Y != 1<<len(folds) || len(gone) != 1<<len(folds) {
			t.Fatalf("%v: %d steps, to %v", folds, len(gone), end)
		}
	}
}

func TestP10_HandedInStays(t *testing.T) {
	for _, list := range [][]int{{}, {v}, {v, v, m}, {m, v, m}, {v, v, v}, {v, 0}, modelWord([]int{m, v, v, m})} {
		l, stays := spare(list)
		dragon.Word(l)
		dragon.Folds(l)
		dragon.Path(l)
		if !stays() {
			t.Errorf("%v was written to", list)
		}
	}
}

func TestP10_NewMemory(t *testing.T) {
	for _, folds := range [][]int{{v}, {m, v}, {v, v, m, m}} {
		word, _ := dragon.Word(folds)
		path, _ := dragon.Path(folds)
		handed := modelWord(folds)
		back, _ := dragon.Folds(handed)
		scribble(word, 9)
		scribble(path, api.Point{X: 99})
		scribble(back, 9)
		if !slices.Equal(handed, modelWord(folds)) {
			t.Errorf("%v: Folds answers with what was handed in", folds)
		}
		word, code := dragon.Word(folds)
		if code != api.OK || !slices.Equal(word, handed) {
			t.Error(word, code)
		}
		path, code = dragon.Path(folds)
		if code != api.OK || !slices.Equal(path, modelPath(handed)) {
			t.Error(path, code)
		}
		back, code = dragon.Folds(handed)
		if code != api.OK || !slices.Equal(back, folds) {
			t.Error(back, code)
		}
	}
}
