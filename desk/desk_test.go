package desk_test

import (
	"math"
	"slices"
	"strconv"
	"strings"
	"testing"

	"pleat/api"
	"pleat/desk"
	"pleat/fold"
	"pleat/samples"
	"pleat/stack"
)

// held against the chapter's words: what a line does. Answered is what comes of it.
func held(t *testing.T, d api.Desk, line string) (api.Desk, string, api.Errno) {
	t.Helper()
	want, text, code := wanted(d, line)
	got, said, e := desk.Run(d, line)
	if e != code || said != text || !sameDesk(got, want) {
		t.Errorf("%v, %q: %v, %q, %d, wanted %v, %q, %d", d, line, got, said, e, want, text, code)
	}
	return got, said, e
}

// by lines, one behind the other; all of them go.
func by(t *testing.T, lines ...string) api.Desk {
	t.Helper()
	var d api.Desk
	for _, line := range lines {
		next, _, e := desk.Run(d, line)
		if e != api.OK {
			t.Fatal(line, e)
		}
		d = next
	}
	return d
}

func two(t *testing.T) api.Desk { return by(t, "new 2 1", "fold x 2 above over") }

// full: a desk on which no more states go.
func full(t *testing.T) api.Desk {
	return by(t, append([]string{"new 2 1"}, slices.Repeat([]string{"turn"}, api.MaxStates-1)...)...)
}

// of states, one of which lies there.
func of(now int, states ...api.State) api.Desk { return api.Desk{States: states, Now: now} }

func TestP14_Examples(t *testing.T) {
	if got := desk.Play("new 2 1\nfold x 2 above over\nshow"); got != "ff\n" {
		t.Errorf("%q", got)
	}
	whole := "new 2 1\nfold x 2 above over\nsheet\nshow\nthick\ncount\ncut x+y 2\n" // of the whole document
	if got := desk.Play(whole); got != "sheet 2 1\nff\nv 2 0 2 2\nff\n2 4\n1\n2 4 2\n" {
		t.Errorf("%q", got)
	}
}

func TestP14_1_May(t *testing.T) {
	st := samples.Folded(samples.Full(2, 1))
	most := slices.Repeat([]api.State{st}, api.MaxStates)
	for name, c := range map[string]struct {
		d    api.Desk
		want bool
	}{
		"nothing":                   {api.Desk{}, true},
		"nothing, no nil":           {of(0, []api.State{}...), true},
		"nothing, 1":                {of(1), false},
		"nothing, below 0":          {of(-1), false},
		"nothing, greatest":         {of(math.MaxInt), false},
		"nothing, least":            {of(math.MinInt), false},
		"one":                       {of(0, st), true},
		"one, past it":              {of(1, st), false},
		"one, below 0":              {of(-1, st), false},
		"one, greatest":             {of(math.MaxInt, st), false},
		"one, least":                {of(math.MinInt, st), false},
		"two, first":                {of(0, st, st), true},
		"two, last":                 {of(1, st, st), true},
		"two, past them":            {of(2, st, st), false},
		"unlike sheets":             {of(1, st, samples.Folded(samples.Full(8, 8)), st), true},
		"most, first":               {of(0, most...), true},
		"most, last":                {of(59, most...), true},
		"most, past them":           {of(60, most...), false},
		"one too many, first":       {of(0, append(slices.Clone(most), st)...), false},
		"one too many, last":        {of(60, append(slices.Clone(most), st)...), false},
		"one too many, last but it": {of(59, append(slices.Clone(most), st)...), false},
	} {
		if got := desk.May(c.d); got != c.want {
			t.Errorf("%s: %v", name, got)
		}
		if _, _, e := held(t, c.d, "foo"); (e == api.ErrName) != c.want {
			t.Errorf("%s: %d", name, e)
		}
	}
}

// Each state counts, not only the one that lies there.
func TestP14_1_States(t *testing.T) {
	st := samples.Folded(samples.Full(2, 1))
	for name, good := range samples.GoodStates() { // some have clashes
		if !desk.May(of(0, good)) || !desk.May(of(1, st, good, st)) {
			t.Error(name)
		}
	}
	for name, bad := range samples.WrongStates() {
		for _, d := range []api.Desk{of(0, bad), of(0, st, bad), of(1, bad, st), of(1, bad, st, st), of(1, st, st, bad), of(1, st, bad, st), of(9, bad)} {
			if desk.May(d) {
				t.Error(name, d.Now, len(d.States))
			}
			for _, line := range []string{"new 1 1", "show", "undo", "foo", "", "fold"} { // ahead of all that is wrong with a line
				if got, text, e := desk.Run(d, line); e != api.ErrState || text != "" || !sameDesk(got, api.Desk{}) {
					t.Errorf("%s, %q: %v, %q, %d", name, line, got, text, e)
				}
			}
		}
	}
}

func TestP14_2_Names(t *testing.T) {
	for _, d := range []api.Desk{{}, two(t)} {
		for _, line := range []string{
			"", " ", "\t\r \r", "foo", "foo 1 2", "New 1 1", "NEW 1 1", "news 1 1", "ne 1 1", "n", "new1 1", "fold,", "turn.", "Undo", "redo\x00", "sho", "showw", "SHEET", "-", "1", "1 new 2",
			"x 2 above over", "#", "#show", "show#", "open", "may", "play", "run", "lay", "put", "step", "solve", "punch", "top", "quit", "help",
			"show\n", "\nshow", "new\n1 1", "show\v", "\fshow", "\u00a0show", "show\u0085", "\ufeffshow", "ſhow", "\xff", "show\xff", "new\x001 1", strings.Repeat("show", 1000),
		} {
			got, text, e := held(t, d, line)
			if e != api.ErrName || text != "" || !sameDesk(got, d) {
				t.Errorf("%q: %v, %q, %d", line, got, text, e)
			}
		}
	}
}

// Bytes 9, 13 and 32 part words, one or more of them, and stand around them.
func TestP14_2_Words(t *testing.T) {
	for _, line := range []string{"fold x 2 above over", " fold x 2 above over ", "fold\tx\t2\tabove\tover", "fold\rx\r2\rabove\rover\r", "\t \r fold \t x\r\r2    above \r\t over\t\t"} {
		d := by(t, "new 2 1", line)
		if !sameDesk(d, two(t)) {
			t.Errorf("%q: %v", line, d)
		}
	}
	for _, blank := range []string{"\n", "\v", "\f", "\x00", "\u00a0", "\u0085", "\u2003", ",", ""} {
		line := strings.Join([]string{"fold", "x", "2", "above" + blank + "over"}, " ")
		if _, _, e := held(t, two(t), line); e != api.ErrForm {
			t.Errorf("%q: %d", line, e)
		}
	}
}

// wrongForms of lines whose first word is a command.
func wrongForms() []string {
	out := []string{"new", "new 1", "new 1 1 1", "new 1 1 foo", "fold", "fold x", "fold x 2", "fold x 2 above", "fold x 2 above over 1", "fold x 2 above over 1 0", "fold x 2 above over 1 0 0", "fold x 2 above over 1 0 0 s s",
		"fold x 2 above over s", "fold x 2 over above", "fold 2 x above over", "fold above over x 2", "cut", "cut x", "cut 2", "cut 2 x", "cut x 2 2", "cut x 2 above"}
	for _, name := range []string{"turn", "undo", "redo", "show", "sheet", "thick", "count"} {
		out = append(out, name+" 1", name+" "+name, name+" x 2", name+" -", name+" \n")
	}
	for _, bad := range []string{"-", "--1", "+1", "1-", "0001", "1000", "-1000", "-0001", "a", "1a", "a1", "0x1", "1e1", "1.", "1,", "1_0", "٣", "½", "\x00", "1\n", "1\u00a0", "99999999999999999999", "x"} {
		out = append(out, "new "+bad+" 1", "new 1 "+bad, "new 9 "+bad, "new "+bad+" "+bad, "cut x "+bad, "fold x "+bad+" above over",
			"fold x 2 above over "+bad+" 0 0 s", "fold x 2 above over 1 "+bad+" 0 s", "fold x 2 above over 1 0 "+bad+" s")
	}
	for _, bad := range []string{"X", "z", "xy", "x+", "x-", "+", "y+x", "y-x", "x + y", "x+y+", "xx", "-x", "0", "1", "x*y", "x=", "upright", "x\n"} {
		out = append(out, "fold "+bad+" 2 above over", "cut "+bad+" 2", "fold "+bad+" 2 above over 1 0 0 s")
	}
	for _, bad := range []string{"1", "-1", "over", "Above", "abov", "abovee", "up", "below\n", "a", "west"} {
		out = append(out, "fold x 2 "+bad+" over", "fold x 2 "+bad+" over 1 0 0 s")
	}
	for _, bad := range []string{"0", "above", "Over", "ove", "overr", "on", "under\n", "u", "below"} {
		out = append(out, "fold x 2 above "+bad, "fold x 2 above "+bad+" 1 0 0 s")
	}
	for _, bad := range []string{"0", "3", "S", "ss", "se", "north", "x", "sen", "senw", "s\n", "\x00"} {
		out = append(out, "fold x 2 above over 1 0 0 "+bad, "fold x 1 above over 9 9 9 "+bad)
	}
	return out
}

// What is wrong with words is told ahead of what lies there, and of ranges.
func TestP14_2_Forms(t *testing.T) {
	most := full(t)
	for i, line := range wrongForms() {
		desks := []api.Desk{{}, two(t)}
		if i%20 == 0 {
			desks = append(desks, most)
		}
		for _, d := range desks {
			if got, text, e := held(t, d, line); e != api.ErrForm || text != "" || !sameDesk(got, d) {
				t.Errorf("%q: %v, %q, %d", line, got, text, e)
			}
		}
	}
}

// Where nothing lies only a new sheet goes; lines, sizes and layers that go nowhere are not asked there.
func TestP14_2_NothingLiesThere(t *testing.T) {
	for _, line := range []string{"fold x 2 above over", "fold x 1 above over", "fold x 2 above over 1 0 0 s", "fold x 2 above over -1 99 99 n", "turn", "undo", "redo", "show", "sheet", "thick", "count", "cut x 2", "cut y 3"} {
		if got, text, e := held(t, api.Desk{}, line); e != api.ErrNone || text != "" || !sameDesk(got, api.Desk{}) {
			t.Errorf("%q: %v, %q, %d", line, got, text, e)
		}
	}
}

func TestP14_2_New(t *testing.T) {
	before := by(t, "new 2 1", "fold x 2 above over", "turn", "undo")
	for w := -2; w <= api.MaxSide+2; w++ {
		for h := -2; h <= api.MaxSide+2; h++ {
			line := "new " + strconv.Itoa(w) + " " + strconv.Itoa(h)
			for _, d := range []api.Desk{{}, before} {
				got, text, e := held(t, d, line)
				if min(w, h) < 1 || max(w, h) > 8 {
					if e != api.ErrRange || text != "" || !sameDesk(got, d) {
						t.Errorf("%s: %v, %q, %d", line, got, text, e)
					}
					continue
				}
				if want := of(0, samples.Folded(samples.Full(w, h))); e != api.OK || text != "" || !sameDesk(got, want) {
					t.Errorf("%s: %v, %q, %d", line, got, text, e)
				}
			}
		}
	}
	for line, want := range map[string]api.Errno{"new 008 01": api.OK, "new -0 1": api.ErrRange, "new 1 -000": api.ErrRange, "new 999 1": api.ErrRange, "new 1 -999": api.ErrRange, "new 010 1": api.ErrRange, "new -1 -1": api.ErrRange} {
		if _, _, e := held(t, before, line); e != want {
			t.Errorf("%s: %d", line, e)
		}
	}
	if got, _, e := held(t, full(t), "new 3 2"); e != api.OK || len(got.States) != 1 || got.Now != 0 {
		t.Error(got, e)
	}
}

// Words of a fold, and the fold that they tell.
func TestP14_2_FoldKnown(t *testing.T) {
	for line, f := range map[string]api.Fold{
		"fold x 2 above over":           {Line: api.Line{Way: api.Upright, C: 2}, Side: 1, Over: true},
		"fold x 2 above under":          {Line: api.Line{Way: api.Upright, C: 2}, Side: 1},
		"fold x 2 below over":           {Line: api.Line{Way: api.Upright, C: 2}, Side: -1, Over: true},
		"fold x 2 below under":          {Line: api.Line{Way: api.Upright, C: 2}, Side: -1},
		"fold x 002 below under":        {Line: api.Line{Way: api.Upright, C: 2}, Side: -1},
		"fold y 2 above over":           {Line: api.Line{Way: api.Level, C: 2}, Side: 1, Over: true},
		"fold y 2 below over 1 1 0 n":   {Line: api.Line{Way: api.Level, C: 2}, Side: -1, Over: true, Layers: 1, At: api.Tri{X: 1, K: 2}},
		"fold x+y 4 above over":         {Line: api.Line{Way: api.Falling, C: 4}, Side: 1, Over: true},
		"fold x+y 4 below under":        {Line: api.Line{Way: api.Falling, C: 4}, Side: -1},
		"fold x-y 0 above over":         {Line: api.Line{Way: api.Rising}, Side: 1, Over: true},
		"fold x-y -0 above over":        {Line: api.Line{Way: api.Rising}, Side: 1, Over: true},
		"fold x-y -2 below over":        {Line: api.Line{Way: api.Rising, C: -2}, Side: -1, Over: true},
		"fold x-y -02 above under":      {Line: api.Line{Way: api.Rising, C: -2}, Side: 1},
		"fold x-y 2 above over 1 1 0 s": {Line: api.Line{Way: api.Rising, C: 2}, Side: 1, Over: true, Layers: 1, At: api.Tri{X: 1}},
		"fold x-y 2 above over 1 1 0 e": {Line: api.Line{Way: api.Rising, C: 2}, Side: 1, Over: true, Layers: 1, At: api.Tri{X: 1, K: 1}},
		"fold x 2 below over 1 0 1 n":   {Line: api.Line{Way: api.Upright, C: 2}, Side: -1, Over: true, Layers: 1, At: api.Tri{Y: 1, K: 2}},
		"fold x 2 below over 1 0 1 w":   {Line: api.Line{Way: api.Upright, C: 2}, Side: -1, Over: true, Layers: 1, At: api.Tri{Y: 1, K: 3}},
		"fold x 2 below over 0 99 99 w": {Line: api.Line{Way: api.Upright, C: 2}, Side: -1, Over: true}, // as chapter 8 has it: all layers, wherever
	} {
		flat := samples.Folded(samples.Full(3, 2))
		want, code := fold.Do(flat, f)
		got, text, e := desk.Run(of(0, flat), line)
		if code != api.OK || e != api.OK || text != "" || !sameDesk(got, of(1, flat, want)) {
			t.Errorf("%s: %v, %q, %d, wanted %v, %d", line, got, text, e, want, code)
		}
	}
}

// What is wrong with a fold.
func TestP14_2_FoldRefused(t *testing.T) {
	far := samples.Brought(samples.Folded(samples.Full(2, 2)), api.Map{A: 1, D: 1, E: api.MaxPlace, F: -api.MaxPlace})
	for line, c := range map[string]struct {
		d    api.Desk
		want api.Errno
	}{
		"fold x 1 above over":             {two(t), api.ErrRange},
		"fold x -999 above over":          {two(t), api.ErrRange},
		"fold x-y 3 above over 1 0 0 s":   {two(t), api.ErrRange},
		"fold x-y 0 above over -1 0 0 s":  {two(t), api.ErrRange},
		"fold x-y 0 above over -01 0 0 s": {two(t), api.ErrRange},
		"fold x-y 0 above over 3 0 0 s":   {two(t), api.ErrRange},
		"fold x-y 0 above over 1 0 0 n":   {two(t), api.ErrRange}, // on the other side
		"fold x-y 0 above over 1 5 0 s":   {two(t), api.ErrRange}, // nothing lies there
		"fold x-y 0 above over 1 -1 0 s":  {two(t), api.ErrRange},
		"fold x-y 0 above over 1 0 -1 s":  {two(t), api.ErrRange},
		"fold x 2 above over":             {two(t), api.ErrNone},
		"fold x 0 above over":             {two(t), api.ErrNone},
		"fold x 998 above over":           {two(t), api.ErrNone},
		"fold y -998 above under":         {two(t), api.ErrNone},
		"fold x 2 below over 1 0 0 s":     {two(t), api.ErrOrder}, // it would unfold
		"fold x+y 2 above over":           {of(0, far), api.ErrSize},
		"fold x 1 above under":            {of(0, samples.GoodStates()["misfolded"]), api.ErrOrder}, // ahead of the line
	} {
		if got, text, e := held(t, c.d, line); e != c.want || text != "" || !sameDesk(got, c.d) {
			t.Errorf("%s: %v, %q, %d, wanted %d", line, got, text, e, c.want)
		}
	}
}

// Drawn folds, told in words.
func TestP14_2_FoldMany(t *testing.T) {
	d, codes, some := die(1), map[api.Errno]int{}, 0
	for range 300 {
		on := drawnDesk(&d, 6)
		st := on.States[on.Now]
		f := drawnFold(&d, st)
		want, code := fold.Do(st, f)
		codes[code]++
		got, text, e := desk.Run(on, words(f))
		if e != code || text != "" || code != api.OK && !sameDesk(got, on) {
			t.Errorf("%v, %s: %v, %q, %d, wanted %d", on, words(f), got, text, e, code)
		}
		if code != api.OK {
			continue
		}
		if f.Layers > 0 {
			some++
		}
		if next := of(on.Now+1, append(slices.Clone(on.States[:on.Now+1]), want)...); !sameDesk(got, next) {
			t.Errorf("%v, %s: %v, wanted %v", on, words(f), got, next)
		}
	}
	if codes[api.OK] < 60 || codes[api.ErrNone] < 20 || codes[api.ErrRange] < 20 || some < 20 {
		t.Error("too few of one sort:", codes, some)
	}
}

func TestP14_2_Turn(t *testing.T) {
	for name, st := range samples.GoodStates() {
		turned, code := stack.Turn(st)
		if got, text, e := desk.Run(of(0, st), "turn"); code != api.OK || e != api.OK || text != "" || !sameDesk(got, of(1, st, turned)) {
			t.Errorf("%s: %v, %q, %d", name, got, text, e)
		}
	}
}

// What comes out is put behind what lies there; what stood behind it is gone.
func TestP14_2_Behind(t *testing.T) {
	flat := samples.Folded(samples.Full(2, 2))
	over, _ := stack.Turn(flat)
	four := of(0, flat, over, flat, over)
	folded, _ := fold.Do(flat, api.Fold{Line: api.Line{C: 2}, Side: 1, Over: true})
	for now, want := range map[int]api.Desk{0: of(1, flat, folded), 2: of(3, flat, over, flat, folded)} { // turned over it lies elsewhere
		four.Now = now
		if got, _, e := held(t, four, "fold x 2 above over"); e != api.OK || !sameDesk(got, want) {
			t.Errorf("%d: %v, %d", now, got, e)
		}
	}
	for now, want := range []api.Desk{of(1, flat, over), of(2, flat, over, flat), of(3, flat, over, flat, over), of(4, flat, over, flat, over, flat)} {
		four.Now = now
		got, _, e := held(t, four, "turn")
		if e != api.OK || !sameDesk(got, want) {
			t.Errorf("%d: %v, %d", now, got, e)
		}
		if _, _, e := held(t, got, "redo"); e != api.ErrEnd {
			t.Errorf("%d: %d", now, e)
		}
	}
}

// No more than MaxStates stand up to what lies there; how many stand behind it does not count.
func TestP14_2_MostStates(t *testing.T) {
	d := full(t)
	if len(d.States) != 60 || d.Now != 59 || !desk.May(d) {
		t.Fatal(len(d.States), d.Now)
	}
	for line, want := range map[string]api.Errno{
		"turn": api.ErrSize, "fold x+y -2 above over": api.ErrSize, "fold x -2 above over": api.ErrSize, "fold x -2 above over 1 -1 0 s": api.ErrSize,
		"fold x -1 above over": api.ErrRange, "fold x 2 above over": api.ErrNone, "turn 1": api.ErrForm, "redo": api.ErrEnd, "undo": api.OK, "show": api.OK,
	} {
		got, _, e := held(t, d, line)
		if e != want || e != api.OK && !sameDesk(got, d) {
			t.Errorf("%s: %d, wanted %d", line, e, want)
		}
	}
	d.Now = 58
	for _, line := range []string{"turn", "fold x 2 above over"} {
		got, _, e := held(t, d, line)
		if e != api.OK || len(got.States) != 60 || got.Now != 59 {
			t.Errorf("%s: %d, %d, %d", line, len(got.States), got.Now, e)
		}
		if _, _, e := held(t, got, "turn"); e != api.ErrSize {
			t.Errorf("%s, and turned: %d", line, e)
		}
	}
	clash := samples.GoodStates()["misfolded"]
	if _, _, e := held(t, of(59, slices.Repeat([]api.State{clash}, 60)...), "fold x 2 above over"); e != api.ErrOrder {
		t.Error(e)
	}
}

func TestP14_2_UndoRedo(t *testing.T) {
	d := by(t, "new 2 1", "fold x 2 above over", "turn")
	for _, c := range []struct {
		line string
		now  int
		want api.Errno
	}{{"redo", 2, api.ErrEnd}, {"undo", 1, api.OK}, {"undo", 0, api.OK}, {"undo", 0, api.ErrEnd}, {"undo", 0, api.ErrEnd}, {"redo", 1, api.OK}, {"redo", 2, api.OK}, {"redo", 2, api.ErrEnd}, {"undo", 1, api.OK}, {"redo", 2, api.OK}} {
		got, text, e := held(t, d, c.line)
		if d.Now = c.now; e != c.want || text != "" || !sameDesk(got, d) {
			t.Fatalf("%v: %v, %q, %d", c, got, text, e)
		}
		d = got
	}
	alone := by(t, "new 2 1")
	for _, line := range []string{"undo", "redo"} {
		if got, text, e := held(t, alone, line); e != api.ErrEnd || text != "" || !sameDesk(got, alone) {
			t.Errorf("%s: %v, %q, %d", line, got, text, e)
		}
	}
}

// Texts that are known, of the state that lies there and of no other.
func TestP14_2_Texts(t *testing.T) {
	d := by(t, "new 3 2", "fold x 2 above over", "fold x+y 2 above under", "undo")
	for now, texts := range map[int]map[string]string{
		0: {"show": "f0 f0 f0\nf0 f0 f0\n", "sheet": "sheet 3 2\nfff\nfff\n", "thick": "1 24\n", "count": "1\n", "cut x 2": "8 16\n", "cut x+y 4": "8 16\n", "cut x-y 0": "16 8\n", "cut y 2": "12 12\n", "cut x -998": "24\n"},
		1: {"show": "ff ff\nff ff\n", "sheet": "sheet 3 2\nfff\nfff\nv 2 0 2 2\nv 2 2 2 4\n", "thick": "2 16\n", "count": "1\n", "cut x 2": "24\n", "cut x 0": "16 8\n", "cut y 2": "12 12\n"},
	} {
		d.Now = now
		for line, want := range texts {
			if got, text, e := held(t, d, line); e != api.OK || text != want || !sameDesk(got, d) {
				t.Errorf("%s: %v, %q, %d", line, got, text, e)
			}
		}
	}
}

func TestP14_2_TextsRefused(t *testing.T) {
	great := by(t, "new 3 3")
	thick := by(t, "new 8 1", "fold x 8 above over", "fold x 4 above over", "fold x 2 above over")
	clash := of(0, samples.GoodStates()["misfolded"])
	for _, c := range []struct {
		d    api.Desk
		line string
		text string
		want api.Errno
	}{
		{great, "count", "", api.ErrSize}, {thick, "count", "", api.ErrSize}, {thick, "thick", "8 4\n", api.OK}, {thick, "show", "ff\n", api.OK},
		{two(t), "cut x 1", "", api.ErrRange}, {two(t), "cut x+y -3", "", api.ErrRange}, {two(t), "cut x-y 999", "", api.ErrRange}, {two(t), "cut y 998", "8\n", api.OK}, {two(t), "cut x 2", "8\n", api.OK},
		{clash, "count", "1\n", api.OK}, {clash, "show", "f0\n", api.OK}, {clash, "cut x+y 2", "2 4 2\n", api.OK}, {clash, "thick", "2 4\n", api.OK},
	} {
		if got, text, e := held(t, c.d, c.line); e != c.want || text != c.text || !sameDesk(got, c.d) {
			t.Errorf("%s: %v, %q, %d, wanted %q, %d", c.line, got, text, e, c.text, c.want)
		}
	}
}

// All commands on states at the edges of what may be, with clashes and without.
func TestP14_2_GoodStates(t *testing.T) {
	for _, st := range samples.GoodStates() {
		for _, line := range []string{"show", "sheet", "thick", "count", "cut x 2", "cut x+y 2", "cut y 1", "undo", "redo", "turn", "fold x 2 above over", "fold x-y 0 below under 1 0 0 n", "foo"} {
			held(t, of(1, st, st, samples.Folded(samples.Full(1, 1))), line)
		}
	}
}

// Sessions of drawn lines, by Run one by one and by Play.
func TestP14_Many(t *testing.T) {
	d, codes := die(2), map[api.Errno]int{}
	for range 150 {
		var on api.Desk
		var lines []string
		want := ""
		for range 1 + d.below(25) {
			line := drawnLine(&d, on)
			next, text, code := held(t, on, line)
			on, lines = next, append(lines, line)
			codes[code]++
			switch {
			case strings.Trim(line, " ") == "":
			case code != api.OK:
				want += "refused " + strconv.Itoa(int(code)) + "\n"
			default:
				want += text
			}
		}
		for _, end := range []string{"", "\n"} {
			if got := desk.Play(strings.Join(lines, "\n") + end); got != want {
				t.Errorf("%q: %q, wanted %q", lines, got, want)
			}
		}
	}
	for _, e := range []api.Errno{api.OK, api.ErrName, api.ErrForm, api.ErrRange, api.ErrNone, api.ErrOrder, api.ErrEnd} {
		if codes[e] < 15 {
			t.Error("too few of one sort:", codes)
		}
	}
}

func TestP14_3_Play(t *testing.T) {
	turns := strings.Repeat("turn\n", 59)
	for text, want := range map[string]string{
		"":                               "",
		"\n":                             "",
		"\n\n \t\r\n\n":                  "",
		"show":                           "refused 9\n",
		"show\n":                         "refused 9\n",
		"show\nshow":                     "refused 9\nrefused 9\n",
		"foo\n\nfoo 1\n \n#":             "refused 13\nrefused 13\nrefused 13\n",
		"new 1 1":                        "",
		"new 1 1\nthick":                 "1 4\n",
		"new 1 1\r\nthick\r\n":           "1 4\n",
		"new 1 1\rthick":                 "refused 1\n",
		"\n\nnew 1 1\n\n\nthick\n":       "1 4\n",
		"new 1 1\nnew 9 9\nnew 1\nthick": "refused 3\nrefused 1\n1 4\n",
		"new 2 1\nfold x 2 above over\nfold x 2 above over\nfold x 2 below over 1 0 0 s\nthick": "refused 9\nrefused 11\n2 4\n",
		"new 2 1\nundo\nredo\nturn\nundo\nredo\nredo":                                           "refused 12\nrefused 12\nrefused 12\n",
		"new 3 3\ncount\nshow":                                                "refused 2\nf0 f0 f0\nf0 f0 f0\nf0 f0 f0\n",
		"new 1 1\n" + turns + "thick":                                         "1 4\n",
		"new 1 1\n" + turns + "turn\nthick\nundo\nturn":                       "refused 2\n1 4\n",
		"show\x00\n\xff\nnew 1 1\nshow":                                       "refused 13\nrefused 13\nf0\n",
		"new 2 1\nfold x 2 above over\nnew 1 1\nundo\nredo\nshow\n":           "refused 12\nrefused 12\nf0\n",
		"new 2 1\nfold x 2 above over\nundo\nturn\nredo\nshow\nundo\nsheet":   "refused 12\nff ff\nsheet 2 1\nff\n",
		"new 1 1\nshow\nsheet\nthick\ncount\ncut x-y 0\ncut x 0\n\ncut q 0\n": "f0\nsheet 1 1\nf\n1 4\n1\n2 2\n4\nrefused 1\n",
	} {
		if got := desk.Play(text); got != want {
			t.Errorf("%q: %q, wanted %q", text, got, want)
		}
	}
}

// Each text begins at a desk without states.
func TestP14_3_NothingIsKept(t *testing.T) {
	for range 3 {
		if got := desk.Play("show\nnew 2 1\nturn\nundo\nshow\nundo"); got != "refused 9\nf0 f0\nrefused 12\n" {
			t.Errorf("%q", got)
		}
	}
}

// Many lines, and long ones.
func TestP14_3_Long(t *testing.T) {
	if got := desk.Play("new 8 8\n" + strings.Repeat("turn\nundo\n", 500) + strings.Repeat("undo 1\n", 1000) + strings.Repeat("\n", 1000000) + "thick"); got != strings.Repeat("refused 1\n", 1000)+"1 256\n" {
		t.Errorf("%q", got)
	}
	if got := desk.Play(strings.Repeat("show ", 1000000)); got != "refused 1\n" {
		t.Errorf("%q", got)
	}
}

// What was undone and done again is as it was; what lies there has no clashes.
func TestP14_WhatComesOfIt(t *testing.T) {
	d, states := die(3), 0
	for range 100 {
		on := drawnDesk(&d, 12)
		for on.Now+1 < len(on.States) {
			on, _, _ = desk.Run(on, "redo")
		}
		was := copyDesk(on)
		for range on.Now {
			on, _, _ = desk.Run(on, "undo")
			clashes, e := stack.Clashes(on.States[on.Now])
			if e != api.OK || len(clashes) > 0 {
				t.Errorf("%v: %v, %d", on, clashes, e)
			}
			states++
		}
		for range was.Now {
			on, _, _ = desk.Run(on, "redo")
		}
		if !sameDesk(on, was) || !desk.May(on) {
			t.Errorf("%v: %v", was, on)
		}
	}
	if states < 200 {
		t.Error("only so many:", states)
	}
}

// asked: lines of all sorts, of which some go and some do not.
func asked() []string {
	return []string{"new 2 2", "new 9 1", "fold x 2 above over", "fold x+y 2 above under", "fold x-y 0 above over 1 0 0 s", "fold x 3 above over", "fold x", "turn", "undo", "redo", "show", "sheet", "thick", "count", "cut x+y 2", "cut y 1", "foo", ""}
}

func TestP14_WhatIsHandedInStays(t *testing.T) {
	d := die(4)
	for range 20 {
		on, stays := roomyDesk(drawnDesk(&d, 8))
		for _, line := range asked() {
			got, _, _ := desk.Run(on, line)
			desk.May(on)
			if !stays() {
				t.Fatalf("%q: it is changed", line)
			}
			scribble(got)
			if !stays() {
				t.Fatalf("%q: it is shared with what was answered", line)
			}
		}
	}
}

func TestP14_NewMemory(t *testing.T) {
	d := die(5)
	for range 20 {
		on := drawnDesk(&d, 8)
		for _, line := range asked() {
			want, _, _ := wanted(on, line)
			want = copyDesk(want)
			one, _, _ := desk.Run(on, line)
			other, _, _ := desk.Run(on, line)
			scribble(one)
			if !sameDesk(other, want) {
				t.Fatalf("%q: two answers share memory", line)
			}
		}
	}
}

// No list of an answer has room in which another one lies.
func TestP14_ListsApart(t *testing.T) {
	d := die(6)
	for range 20 {
		on := drawnDesk(&d, 8)
		for _, line := range asked() {
			got, _, _ := desk.Run(on, line)
			want := copyDesk(got)
			for i := range got.States {
				apart := copyDesk(want)
				scribble(api.Desk{States: got.States[i : i+1 : i+1]})
				got.States[i] = apart.States[i]
				if !sameDesk(got, want) {
					t.Fatalf("%q: two states share memory", line)
				}
			}
			for i := range got.States {
				scribbleRoom(got.States[i])
			}
			if !sameDesk(got, want) {
				t.Fatalf("%q: two lists share memory", line)
			}
		}
	}
}

// scribbleRoom: over the spare room of all lists of a state.
func scribbleRoom(st api.State) {
	sheet := st.Sheet
	room := api.State{Sheet: api.Sheet{Mask: sheet.Mask[len(sheet.Mask):], Creases: sheet.Creases[len(sheet.Creases):]}, Maps: st.Maps[len(st.Maps):]}
	samples.Scribble(room)
	for _, s := range st.Stacks {
		samples.Scribble(api.State{Stacks: []api.Stack{{Tris: s.Tris[len(s.Tris):]}}})
	}
	samples.Scribble(api.State{Stacks: st.Stacks[len(st.Stacks):]})
}
