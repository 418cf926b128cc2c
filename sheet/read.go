package sheet

import (
	"maps"
	"slices"
	"strings"

	"pleat/api"
	"pleat/lines"
	"pleat/paper"
)

// reader: a text, and what came of its lines so far.
type reader struct {
	lines []string
	at    int // the number of the line that is read

	w, h  int
	mask  []int
	paper paper.Paper
	kinds map[api.Edge]int // of each edge that has a crease
}

// linesOf a text: behind the last line feed there is one only if something stands there.
func linesOf(text string) []string {
	all := strings.Split(text, "\n")
	if last := len(all) - 1; all[last] == "" {
		return all[:last]
	}
	return all
}

// refuse gives up, if the line that is read is wrong; Read recovers what was told.
func (r *reader) refuse(wrong bool, code api.Errno) {
	if wrong {
		panic(api.Fault{Code: code, At: r.at})
	}
}

// words of the next line that has some. Behind the last line there are none; at is then the number of the line that is missing.
func (r *reader) words() []string {
	for r.at++; r.at <= len(r.lines); r.at++ {
		counts, _, _ := strings.Cut(r.lines[r.at-1], "#")
		if words := lines.Words(counts); len(words) > 0 {
			return words
		}
	}
	return nil
}

func (r *reader) readSize() {
	words := r.words()
	r.refuse(len(words) != 3 || words[0] != "sheet", api.ErrForm)
	r.w, r.h = r.number(words[1]), r.number(words[2])
	r.refuse(!paper.MaySide(r.w) || !paper.MaySide(r.h), api.ErrRange)
}

func (r *reader) number(word string) int {
	n, ok := lines.Number(word)
	r.refuse(!ok, api.ErrForm)
	return n
}

func (r *reader) readRows() {
	r.mask = make([]int, r.w*r.h)
	for y := r.h - 1; y >= 0; y-- { // the highest row stands first
		words := r.words()
		r.refuse(len(words) != 1 || len(words[0]) != r.w, api.ErrForm)
		for x := range r.w {
			n := strings.IndexByte(letters, words[0][x])
			r.refuse(n < 0, api.ErrForm)
			r.mask[y*r.w+x] = n
		}
	}
	r.paper = paper.Of(r.w, r.h, r.mask)
}

func (r *reader) readCreases() {
	r.kinds = map[api.Edge]int{}
	for words := r.words(); words != nil; words = r.words() {
		r.readCrease(words)
	}
}

func (r *reader) readCrease(words []string) {
	r.refuse(len(words) != 5, api.ErrForm)
	kind := kindOf(words[0])
	r.refuse(kind == 0, api.ErrForm)
	p := api.Point{X: r.number(words[1]), Y: r.number(words[2])}
	q := api.Point{X: r.number(words[3]), Y: r.number(words[4])}
	r.refuse(!r.within(p) || !r.within(q), api.ErrRange)
	edges := between(p, q)
	r.refuse(len(edges) == 0, api.ErrRange)
	for _, e := range edges {
		r.refuse(!r.paper.Inner(e), api.ErrPlace)
	}
	for _, e := range edges { // on their own: an edge that is not there is told ahead of one that is twice
		r.refuse(r.kinds[e] != 0, api.ErrTwice)
	}
	for _, e := range edges {
		r.kinds[e] = kind
	}
}

// kindOf a crease whose word is a letter alone; 0: of none.
func kindOf(word string) int {
	kind := 0
	for i, letter := range word {
		switch {
		case i > 0:
			return 0
		case letter == 'm' || letter == '∧':
			kind = api.Mountain
		case letter == 'v' || letter == '∨':
			kind = api.Valley
		}
	}
	return kind
}

// within: is it a point of the grid that a sheet of this size reaches?
func (r *reader) within(p api.Point) bool {
	return p.X <= 2*r.w && p.Y <= 2*r.h && p.X%2 == p.Y%2
}

// sheet that was read, its creases in order.
func (r *reader) sheet() api.Sheet {
	s := api.Sheet{W: r.w, H: r.h, Mask: r.mask}
	for _, e := range slices.SortedFunc(maps.Keys(r.kinds), paper.CompareEdges) {
		s.Creases = append(s.Creases, api.Crease{E: e, Kind: r.kinds[e]})
	}
	return s
}
