package stamps_test

import (
	"math"
	"slices"
	"testing"

	"pleat/api"
	"pleat/solve"
	"pleat/stamps"
)

func TestP9_1_May(t *testing.T) {
	for name, c := range map[string]struct {
		order []int
		want  bool
	}{
		"one":                         {[]int{1}, true},
		"two":                         {[]int{1, 2}, true},
		"two, turned round":           {[]int{2, 1}, true},
		"three, inside":               {[]int{1, 3, 2}, true},
		"the chapter's, not":          {[]int{1, 3, 2, 4}, false},
		"the chapter's":               {[]int{1, 2, 4, 3}, true},
		"two ties side by side":       {[]int{1, 2, 3, 4}, true},
		"a tie within another one":    {[]int{1, 4, 3, 2}, true},
		"a tie around another one":    {[]int{3, 1, 2, 4}, true},
		"through at the east":         {[]int{1, 4, 2, 3}, false},
		"through at the west":         {[]int{2, 4, 3, 5, 1}, false},
		"not through, of two sides":   {[]int{2, 1, 3}, true},
		"through at the west, turned": {[]int{1, 5, 3, 4, 2}, false},
		"far ties at the east":        {[]int{1, 2, 3, 4, 5, 7, 6, 8}, false},
		"rolled up":                   {[]int{7, 5, 3, 1, 2, 4, 6, 8}, true},
		"all of it to and fro":        {[]int{8, 7, 6, 5, 4, 3, 2, 1}, true},
		"last tie through the first":  {[]int{1, 7, 2, 3, 4, 5, 6, 8}, false},
	} {
		if got, code := stamps.May(c.order); code != api.OK || got != c.want {
			t.Errorf("%s: %v: %v, %d", name, c.order, got, code)
		}
	}
}

func TestP9_1_EveryOrder(t *testing.T) {
	for n := 1; n <= api.MaxStamps; n++ {
		for _, order := range shuffles(n) {
			if got, code := stamps.May(order); code != api.OK || got != closes(order) {
				t.Fatalf("%v: %v, %d", order, got, code)
			}
		}
	}
}

// wrongOrders: lists that are no orders.
func wrongOrders() map[string]struct {
	order []int
	want  api.Errno
} {
	return map[string]struct {
		order []int
		want  api.Errno
	}{
		"nothing":             {nil, api.ErrSize},
		"empty":               {[]int{}, api.ErrSize},
		"nine":                {[]int{1, 2, 3, 4, 5, 6, 7, 8, 9}, api.ErrSize},
		"nine, all alike":     {slices.Repeat([]int{1}, 9), api.ErrSize},
		"nine, none of them":  {make([]int, 9), api.ErrSize},
		"very many":           {make([]int, 1<<20), api.ErrSize},
		"twice":               {[]int{1, 1}, api.ErrForm},
		"twice, far apart":    {[]int{3, 1, 2, 4, 3}, api.ErrForm},
		"none":                {[]int{0}, api.ErrForm},
		"from 0 on":           {[]int{0, 1, 2}, api.ErrForm},
		"one past the end":    {[]int{2}, api.ErrForm},
		"past the end, eight": {[]int{9, 2, 3, 4, 5, 6, 7, 8}, api.ErrForm},
		"below 0":             {[]int{1, -1}, api.ErrForm},
		"least":               {[]int{1, math.MinInt}, api.ErrForm},
		"greatest":            {[]int{math.MaxInt, 1}, api.ErrForm},
		"through, and twice":  {[]int{1, 3, 2, 4, 4}, api.ErrForm},
	}
}

func TestP9_1_Refused(t *testing.T) {
	for name, c := range wrongOrders() {
		if got, code := stamps.May(c.order); code != c.want || got {
			t.Errorf("%s: %v, %d", name, got, code)
		}
	}
}

func TestP9_2_Kinds(t *testing.T) {
	for name, c := range map[string]struct{ order, want []int }{
		"one":              {[]int{1}, nil},
		"above":            {[]int{1, 2}, []int{v}},
		"below":            {[]int{2, 1}, []int{m}},
		"to and fro":       {[]int{1, 2, 3, 4}, []int{v, m, v}},
		"to and fro, down": {[]int{4, 3, 2, 1}, []int{m, v, m}},
		"rolled up":        {[]int{2, 4, 3, 1}, []int{m, m, m}},
		"the chapter's":    {[]int{1, 2, 4, 3}, []int{v, m, m}},
		"inside":           {[]int{1, 3, 2}, []int{v, v}},
	} {
		if got, code := stamps.Kinds(c.order); code != api.OK || !slices.Equal(got, c.want) {
			t.Errorf("%s: %v, %d", name, got, code)
		}
	}
}

func TestP9_2_EveryOrder(t *testing.T) {
	for n := 1; n <= api.MaxStamps; n++ {
		for _, order := range shuffles(n) {
			want, wanted := modelKinds(order), api.OK
			if !closes(order) {
				want, wanted = nil, api.ErrOrder
			}
			if got, code := stamps.Kinds(order); code != wanted || !slices.Equal(got, want) {
				t.Fatalf("%v: %v, %d", order, got, code)
			}
		}
	}
}

func TestP9_2_Refused(t *testing.T) {
	for name, c := range wrongOrders() {
		if got, code := stamps.Kinds(c.order); code != c.want || len(got) != 0 {
			t.Errorf("%s: %v, %d", name, got, code)
		}
	}
	if got, code := stamps.Kinds([]int{1, 3, 2, 4}); code != api.ErrOrder || len(got) != 0 {
		t.Error(got, code)
	}
}

func TestP9_3_All(t *testing.T) {
	for n := 1; n <= api.MaxStamps; n++ {
		got, code := stamps.All(n)
		if code != api.OK || !same(got, model(n)) {
			t.Errorf("%d: %v, %d", n, got, code)
		}
		if len(got) != counts[n-1] {
			t.Errorf("%d: %d orders", n, len(got))
		}
	}
	for _, n := range []int{math.MinInt, -8, -1, 0, 9, 10, math.MaxInt} {
		if got, code := stamps.All(n); code != api.ErrSize || len(got) != 0 {
			t.Errorf("%d: %v, %d", n, got, code)
		}
	}
}

func TestP9_3_By(t *testing.T) {
	for n := 1; n <= api.MaxStamps; n++ {
		all, together := model(n), 0
		for kinds := range kindLists(n - 1) {
			want := slices.DeleteFunc(slices.Clone(all), func(l []int) bool { return !slices.Equal(modelKinds(l), kinds) })
			got, code := stamps.By(kinds)
			if code != api.OK || !same(got, want) {
				t.Fatalf("%v: %v, %d", kinds, got, code)
			}
			if len(got) == 0 {
				t.Errorf("%v: no order", kinds)
			}
			together += len(got)
		}
		if together != counts[n-1] {
			t.Errorf("%d: %d orders by all kinds", n, together)
		}
	}
	if got, code := stamps.By(nil); code != api.OK || !same(got, [][]int{{1}}) {
		t.Error(got, code)
	}
}

func TestP9_3_ByRefused(t *testing.T) {
	for name, c := range map[string]struct {
		kinds []int
		want  api.Errno
	}{
		"nine stamps":            {slices.Repeat([]int{v}, 8), api.ErrSize},
		"nine, and wrong ones":   {make([]int, 8), api.ErrSize},
		"very many":              {make([]int, 1<<20), api.ErrSize},
		"no kind":                {[]int{0}, api.ErrKind},
		"past them":              {[]int{v, 3}, api.ErrKind},
		"below 0":                {[]int{-1, m}, api.ErrKind},
		"the last of eight":      {[]int{v, v, v, v, v, v, math.MaxInt}, api.ErrKind},
		"the first of eight":     {[]int{math.MinInt, v, v, v, v, v, v}, api.ErrKind},
		"one wrong among others": {[]int{m, v, 4, v}, api.ErrKind},
	} {
		if got, code := stamps.By(c.kinds); code != c.want || len(got) != 0 {
			t.Errorf("%s: %v, %d", name, got, code)
		}
	}
}

// What comes of it: turned round an order may be, and if its uppermost stamp goes below.
func TestP9_3_Turned(t *testing.T) {
	for n := 1; n <= api.MaxStamps; n++ {
		all, _ := stamps.All(n)
		for _, order := range all {
			round := slices.Clone(order)
			slices.Reverse(round)
			below := append([]int{order[n-1]}, order[:n-1]...)
			for _, l := range [][]int{round, below} {
				if may, code := stamps.May(l); code != api.OK || !may {
					t.Errorf("%v of %v: %v, %d", l, order, may, code)
				}
			}
		}
	}
}

// A strip is a sheet, too: as many orders of its cells go.
func TestP9_3_AsSheets(t *testing.T) {
	for n := range 6 {
		for kinds := range kindLists(n) {
			want, code := solve.Count(strip(kinds))
			got, _ := stamps.By(kinds)
			if code != api.OK || len(got) != want {
				t.Errorf("%v: %d orders, wanted %d, %d", kinds, len(got), want, code)
			}
		}
	}
}

func TestP9_HandedInStays(t *testing.T) {
	order, stays := spare([]int{1, 2, 4, 3})
	stamps.May(order)
	stamps.Kinds(order)
	stamps.By(order[:2])
	wrong, wrongStays := spare([]int{1, 3, 2, 4})
	stamps.May(wrong)
	stamps.Kinds(wrong)
	if !stays() || !wrongStays() {
		t.Error("an order was written to")
	}
	kinds, kindsStay := spare([]int{v, m, m})
	stamps.By(kinds)
	if !kindsStay() {
		t.Error("kinds were written to")
	}
}

func TestP9_NewMemory(t *testing.T) {
	for name, call := range map[string]func() ([][]int, api.Errno){
		"All": func() ([][]int, api.Errno) { return stamps.All(5) },
		"By":  func() ([][]int, api.Errno) { return stamps.By([]int{v, m, v, v}) },
		"Kinds": func() ([][]int, api.Errno) {
			l, code := stamps.Kinds([]int{1, 2, 4, 3})
			return [][]int{l}, code
		},
	} {
		first, _ := call()
		want := copied(first)
		for i := range first {
			_ = append(first[i], -7)
			if !same(first, want) {
				t.Fatalf("%s: lists share their room", name)
			}
		}
		scribble(first)
		if again, code := call(); code != api.OK || !same(again, want) {
			t.Errorf("%s: %v, %d", name, again, code)
		}
	}
}
