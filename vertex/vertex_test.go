package vertex_test

import (
	"slices"
	"testing"

	"pleat/api"
	"pleat/vertex"
)

func TestP5_1_Flat(t *testing.T) {
	for name, c := range map[string]struct {
		angles, kinds []int
		want          bool
	}{
		"straight, valleys":           {[]int{1, 1}, []int{v, v}, true},
		"straight, mountains":         {[]int{5, 5}, []int{m, m}, true},
		"straight, of two kinds":      {[]int{5, 5}, []int{m, v}, false},
		"straight, greatest":          {[]int{1000, 1000}, []int{v, v}, true},
		"cross":                       {[]int{1, 1, 1, 1}, []int{v, v, v, m}, true},
		"cross, the other ones":       {[]int{1, 1, 1, 1}, []int{m, v, m, m}, true},
		"cross, two of each":          {[]int{1, 1, 1, 1}, []int{v, v, m, m}, false},
		"cross, of one kind":          {[]int{1, 1, 1, 1}, []int{v, v, v, v}, false},
		"least between unlike":        {[]int{1, 2, 3, 2}, []int{v, m, v, v}, true},
		"least between alike":         {[]int{1, 2, 3, 2}, []int{v, v, v, m}, false},
		"least is the last one":       {[]int{2, 3, 2, 1}, []int{m, v, v, v}, true},
		"least is the last one, not":  {[]int{2, 3, 2, 1}, []int{v, m, v, v}, false},
		"two least ones":              {[]int{1, 1, 2, 2}, []int{v, v, m, v}, true},
		"two least ones, of one kind": {[]int{1, 1, 2, 2}, []int{v, v, v, m}, false},
		"greatest":                    {[]int{999, 1000, 1000, 999}, []int{m, v, v, v}, true},
		"through a crease":            {[]int{3, 1, 1, 3}, []int{v, v, v, m}, true},
		"six":                         {[]int{1, 1, 1, 1, 1, 1}, []int{m, m, m, m, v, v}, true},
		"six, as many of both":        {[]int{1, 1, 1, 1, 1, 1}, []int{m, m, m, v, v, v}, false},
		"eight":                       {[]int{1, 1, 1, 1, 1, 1, 1, 1}, []int{m, m, m, m, m, v, v, v}, true},
		"eight, six of one kind":      {[]int{1, 1, 1, 1, 1, 1, 1, 1}, []int{m, m, m, m, m, m, v, v}, false},
	} {
		if got, e := vertex.Flat(c.angles, c.kinds); e != api.OK || got != c.want {
			t.Errorf("%s: %v, %d", name, got, e)
		}
	}
}

// Held against each order of the sectors.
func TestP5_1_EveryOrder(t *testing.T) {
	for n, most := range map[int]int{2: 6, 4: 5, 6: 3} {
		for angles := range closed(n, most) {
			wantLists(t, angles, byOrders(angles))
		}
	}
	for angles := range drawn(8, 4, 12) {
		wantLists(t, angles, byOrders(angles))
	}
	for _, angles := range [][]int{{1, 1, 1, 1, 1, 1, 1, 1}, {1, 2, 1, 2, 1, 2, 4, 1}, {1000, 1, 1, 1000, 1000, 999, 999, 1000}} {
		wantLists(t, angles, byOrders(angles))
	}
}

// wantLists: Flat and All must tell just these.
func wantLists(t *testing.T, angles []int, want [][]int) {
	t.Helper()
	for kinds := range allLists(len(angles), v) {
		flat := slices.ContainsFunc(want, func(l []int) bool { return slices.Equal(l, kinds) })
		if got, e := vertex.Flat(angles, kinds); e != api.OK || got != flat {
			t.Fatalf("%v, %v: %v, %d", angles, kinds, got, e)
		}
	}
	if got, e := vertex.All(angles); e != api.OK || !slices.EqualFunc(got, want, slices.Equal) {
		t.Fatalf("%v: %v, %d, wanted %v", angles, got, e, want)
	}
}

// Held against what is told without any order: angles alike between greater ones are folded away.
func TestP5_1_Crimps(t *testing.T) {
	for _, n := range []int{4, 6, 8} {
		for _, most := range []int{2, 4, 1000} {
			for angles := range drawn(n, most, 40) {
				for kinds := range allLists(n, v) {
					if got, e := vertex.Flat(angles, kinds); e != api.OK || got != byCrimps(angles, kinds) {
						t.Errorf("%v, %v: %v, %d", angles, kinds, got, e)
					}
				}
			}
		}
	}
}

func TestP5_2_Lists(t *testing.T) {
	for _, c := range []struct {
		angles []int
		want   [][]int
	}{
		{[]int{7, 7}, [][]int{{m, m}, {v, v}}},
		{[]int{1, 1, 1, 1}, [][]int{{m, m, m, v}, {m, m, v, m}, {m, v, m, m}, {m, v, v, v}, {v, m, m, m}, {v, m, v, v}, {v, v, m, v}, {v, v, v, m}}},
		{[]int{1, 2, 3, 2}, [][]int{{m, v, m, m}, {m, v, v, v}, {v, m, m, m}, {v, m, v, v}}},
		{[]int{2, 1, 2, 3}, [][]int{{m, m, v, m}, {m, v, m, m}, {v, m, v, v}, {v, v, m, v}}},
		{[]int{1, 1, 2, 2}, [][]int{{m, m, v, m}, {m, v, m, m}, {v, m, m, m}, {m, v, v, v}, {v, m, v, v}, {v, v, m, v}}},
	} {
		slices.SortFunc(c.want, slices.Compare)
		if got, e := vertex.All(c.angles); e != api.OK || !slices.EqualFunc(got, c.want, slices.Equal) {
			t.Errorf("%v: %v, %d, wanted %v", c.angles, got, e, c.want)
		}
	}
}

func TestP5_2_Count(t *testing.T) {
	for _, c := range []struct {
		angles []int
		want   int
	}{
		{[]int{1, 1}, 2},
		{[]int{1000, 1000}, 2},
		{[]int{1, 1, 1, 1}, 8},
		{[]int{1, 2, 3, 2}, 4},
		{[]int{1, 1, 2, 2}, 6},
		{[]int{1, 1, 1, 1, 1, 1}, 30},
		{[]int{9, 9, 9, 9, 9, 9, 9, 9}, 112},
	} {
		if got, e := vertex.Count(c.angles); e != api.OK || got != c.want {
			t.Errorf("%v: %d, %d, wanted %d", c.angles, got, e, c.want)
		}
	}
}

// All tells what is Flat, in order, and Count how many.
func TestP5_2_AllAndCount(t *testing.T) {
	for angles := range drawn(8, 6, 60) {
		var want [][]int
		for kinds := range allLists(8, v) {
			if flat, _ := vertex.Flat(angles, kinds); flat {
				want = append(want, kinds)
			}
		}
		if got, e := vertex.All(angles); e != api.OK || !slices.EqualFunc(got, want, slices.Equal) {
			t.Errorf("%v: %v, %d", angles, got, e)
		}
		if got, e := vertex.Count(angles); e != api.OK || got != len(want) || got == 0 {
			t.Errorf("%v: %d, %d, wanted %d", angles, got, e, len(want))
		}
	}
}

func TestP5_WhatComesOfIt(t *testing.T) {
	for angles := range closed(6, 3) {
		n := len(angles)
		lists, e := vertex.All(angles)
		if e != api.OK {
			t.Fatal(angles, e)
		}
		for _, kinds := range lists {
			if sum := surplus(kinds); sum != 2 && sum != -2 {
				t.Errorf("%v: %v", angles, kinds)
			}
			if !slices.ContainsFunc(lists, func(l []int) bool { return slices.Equal(l, changed(kinds)) }) {
				t.Errorf("%v: %v, but not with all kinds changed", angles, kinds)
			}
			for j, a := range angles {
				least := a < angles[(j+n-1)%n] && a < angles[(j+1)%n]
				if least && kinds[j] == kinds[(j+1)%n] {
					t.Errorf("%v: %v at the least angle %d", angles, kinds, j)
				}
			}
		}
	}
}

// With all angles alike each list goes that has two more of one kind; in whatever units.
func TestP5_AllAlike(t *testing.T) {
	for _, n := range []int{2, 4, 6, 8} {
		for _, angle := range []int{1, 45, api.MaxAngle} {
			angles := slices.Repeat([]int{angle}, n)
			for kinds := range allLists(n, v) {
				sum := surplus(kinds)
				if got, e := vertex.Flat(angles, kinds); e != api.OK || got != (sum == 2 || sum == -2) {
					t.Errorf("%v, %v: %v, %d", angles, kinds, got, e)
				}
			}
		}
	}
}

// From whichever crease on they are told, the same may be folded.
func TestP5_TurnedRound(t *testing.T) {
	for angles := range drawn(8, 3, 5) {
		for kinds := range allLists(8, v) {
			want, _ := vertex.Flat(angles, kinds)
			for first := range 8 {
				if got, e := vertex.Flat(turned(angles, first), turned(kinds, first)); e != api.OK || got != want {
					t.Errorf("%v, %v from %d on: %v, %d", angles, kinds, first, got, e)
				}
			}
		}
	}
}

func TestP5_Refused(t *testing.T) {
	const least, greatest = -1 << 63, 1<<63 - 1
	for name, c := range map[string]struct {
		angles []int
		want   api.Errno
	}{
		"none":                       {nil, api.ErrSize},
		"empty":                      {[]int{}, api.ErrSize},
		"one":                        {[]int{1}, api.ErrSize},
		"three":                      {[]int{1, 2, 1}, api.ErrSize},
		"seven":                      {[]int{1, 1, 1, 1, 1, 1, 1}, api.ErrSize},
		"nine":                       {[]int{1, 1, 1, 1, 1, 1, 1, 1, 1}, api.ErrSize},
		"ten":                        {slices.Repeat([]int{1}, 10), api.ErrSize},
		"very many":                  {slices.Repeat([]int{1}, 10000), api.ErrSize},
		"three, one of them is 0":    {[]int{1, 0, 1}, api.ErrSize},
		"zero":                       {[]int{0, 0}, api.ErrRange},
		"below zero":                 {[]int{-1, -1}, api.ErrRange},
		"too great":                  {[]int{1001, 1001}, api.ErrRange},
		"the last one is 0":          {[]int{1, 2, 1, 0}, api.ErrRange},
		"one in the middle, too big": {[]int{1, 1, 1001, 1001, 1, 1}, api.ErrRange},
		"greatest number":            {[]int{greatest, greatest}, api.ErrRange},
		"least number":               {[]int{least, least, least, least}, api.ErrRange},
		"0, and not even":            {[]int{0, 5}, api.ErrRange},
		"not even":                   {[]int{1, 2}, api.ErrTear},
		"four, not even":             {[]int{1, 1, 1, 2}, api.ErrTear},
		"not even, at the limits":    {[]int{1000, 1, 1000, 1, 1000, 1, 1000, 1}, api.ErrTear},
	} {
		for kind := -1; kind <= 3; kind++ { // what is wrong with angles is told ahead of kinds
			kinds := slices.Repeat([]int{kind}, len(c.angles))
			if got, e := vertex.Flat(c.angles, kinds); got || e != c.want {
				t.Errorf("%s: Flat, kind %d: %v, %d", name, kind, got, e)
			}
		}
		if got, e := vertex.All(c.angles); len(got) != 0 || e != c.want {
			t.Errorf("%s: All: %v, %d", name, got, e)
		}
		if got, e := vertex.Count(c.angles); got != 0 || e != c.want {
			t.Errorf("%s: Count: %d, %d", name, got, e)
		}
	}
}

func TestP5_1_KindsRefused(t *testing.T) {
	for name, c := range map[string]struct {
		angles, kinds []int
		want          api.Errno
	}{
		"no kinds":                {[]int{1, 1}, nil, api.ErrSize},
		"one missing":             {[]int{1, 1, 1, 1}, []int{v, v, v}, api.ErrSize},
		"one more":                {[]int{1, 1}, []int{v, v, v}, api.ErrSize},
		"no angles":               {nil, []int{v, v}, api.ErrSize},
		"one missing, one wrong":  {[]int{1, 1}, []int{7}, api.ErrSize},
		"one missing, a zero":     {[]int{0, 0}, []int{v}, api.ErrSize},
		"one missing, not even":   {[]int{1, 2}, []int{v}, api.ErrSize},
		"zero":                    {[]int{1, 1}, []int{0, v}, api.ErrKind},
		"three":                   {[]int{1, 1}, []int{m, 3}, api.ErrKind},
		"below zero":              {[]int{1, 1, 1, 1}, []int{m, m, -1, v}, api.ErrKind},
		"greatest and least":      {[]int{1, 1}, []int{1<<63 - 1, -1 << 63}, api.ErrKind},
		"wrong, but not even too": {[]int{1, 2}, []int{0, v}, api.ErrTear},
	} {
		if got, e := vertex.Flat(c.angles, c.kinds); got || e != c.want {
			t.Errorf("%s: %v, %d, wanted %d", name, got, e, c.want)
		}
	}
}

func TestP5_WhatIsHandedInStays(t *testing.T) {
	angles, kinds := []int{1, 2, 3, 2, 77, 78}, []int{v, m, v, v, 77, 78}
	vertex.Flat(angles[:4], kinds[:4])
	vertex.All(angles[:4])
	vertex.Count(angles[:4])
	if !slices.Equal(angles, []int{1, 2, 3, 2, 77, 78}) || !slices.Equal(kinds, []int{v, m, v, v, 77, 78}) {
		t.Error("what was handed in was changed:", angles, kinds)
	}
}

// Lists of an answer are written over, their spare room too: no other one is touched by it.
func TestP5_2_NewMemory(t *testing.T) {
	angles := []int{1, 2, 3, 2}
	want := [][]int{{m, v, m, m}, {m, v, v, v}, {v, m, m, m}, {v, m, v, v}}
	got, _ := vertex.All(angles)
	for i, l := range got {
		if !slices.Equal(l, want[i]) {
			t.Errorf("list %d: %v: it shares memory with one ahead of it", i, l)
		}
		for k := range l[:cap(l)] {
			l[:cap(l)][k] = 9
		}
	}
	for i := range got[:cap(got)] {
		got[:cap(got)][i] = nil
	}
	if again, e := vertex.All(angles); e != api.OK || !slices.EqualFunc(again, want, slices.Equal) {
		t.Error("an answer shares memory with an earlier one:", again, e)
	}
}
