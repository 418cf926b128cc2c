package sheet_test

import (
	"maps"
	"slices"
	"strings"
	"testing"

	"pleat/api"
	"pleat/samples"
	"pleat/sheet"
)

func TestP2_4_Read(t *testing.T) {
	valley := samples.With(samples.Full(2, 1), samples.Crease(api.Valley, 2, 0, 2, 2))
	cross := samples.With(samples.Full(1, 1), samples.Crease(1, 0, 0, 1, 1), samples.Crease(2, 0, 2, 1, 1), samples.Crease(2, 1, 1, 2, 0), samples.Crease(1, 1, 1, 2, 2))
	for name, c := range map[string]struct {
		text string
		want api.Sheet
	}{
		"the example":              {text("sheet 2 1", "ff", "v 2 0 2 2"), valley},
		"ended by a line feed":     {text("sheet 2 1", "ff", "v 2 0 2 2", ""), valley},
		"blank lines":              {text("", " \t\r ", "sheet 2 1", "", "ff", "\r", "", "v 2 0 2 2", "", "", ""), valley},
		"carriage returns":         {"sheet 2 1\r\nff\r\nv 2 0 2 2\r\n", valley},
		"tabs and blanks":          {text("\t sheet\t2 \r 1 ", " ff ", "v\t2\t0\r2  2"), valley},
		"remarks":                  {text("# paper", "sheet 2 1# two", "ff#", " # 3 4", "#", "v 2 0 2 2#2", "#v 2 0 2 2"), valley},
		"a remark ends a number":   {text("sheet 2 1#0", "ff", "v 2 0 2 2#4 # 7"), valley},
		"a remark may be anything": {text("sheet 2 1 #\x00\xff ∧", "ff", "v 2 0 2 2"), valley},
		"noughts ahead":            {text("sheet 002 01", "ff", "v 02 00 002 2"), valley},
		"other letters":            {text("sheet 2 1", "ff", "∨ 2 0 2 2"), valley},
		"greater point first":      {text("sheet 2 1", "ff", "v 2 2 2 0"), valley},
		"both diagonals":           {text("sheet 1 1", "f", "∧ 0 0 1 1", "m 2 2 1 1", "v 0 2 2 0"), cross},
		"out of order":             {text("sheet 1 1", "f", "v 2 0 1 1", "m 1 1 2 2", "m 1 1 0 0", "∨ 1 1 0 2"), cross},
		"the highest row first":    {text("sheet 2 3", "ed", "bf", "fd"), samples.Masked(2, 3, 15, 13, 11, 15, 14, 13)},
		"cells that are not there": {text("sheet 3 1", "0f0"), samples.Masked(3, 1, 0, 15, 0)},
		"greatest":                 {"sheet 8 8" + strings.Repeat("\nffffffff", 8), samples.Full(8, 8)},
	} {
		if got, f := sheet.Read(c.text); f != (api.Fault{}) || !same(got, c.want) {
			t.Errorf("%s: %v, %v", name, got, f)
		}
	}
}

func TestP2_4_LongCreases(t *testing.T) {
	for line, want := range map[string][]api.Edge{
		"m 4 0 4 4": {samples.Edge(4, 0, 4, 2), samples.Edge(4, 2, 4, 4)},
		"m 4 4 4 0": {samples.Edge(4, 0, 4, 2), samples.Edge(4, 2, 4, 4)},
		"m 0 2 6 2": {samples.Edge(0, 2, 2, 2), samples.Edge(2, 2, 4, 2), samples.Edge(4, 2, 6, 2)},
		"m 4 2 2 2": {samples.Edge(2, 2, 4, 2)},
		"m 0 0 4 4": {samples.Edge(0, 0, 1, 1), samples.Edge(1, 1, 2, 2), samples.Edge(2, 2, 3, 3), samples.Edge(3, 3, 4, 4)},
		"m 5 3 1 3": nil,
		"m 5 1 2 4": {samples.Edge(2, 4, 3, 3), samples.Edge(3, 3, 4, 2), samples.Edge(4, 2, 5, 1)},
		"m 2 4 5 1": {samples.Edge(2, 4, 3, 3), samples.Edge(3, 3, 4, 2), samples.Edge(4, 2, 5, 1)},
		"m 3 3 2 2": {samples.Edge(2, 2, 3, 3)},
	} {
		s, f := sheet.Read(text("sheet 3 2", "fff", "fff", line))
		if want == nil {
			if f != (api.Fault{Code: api.ErrRange, At: 4}) {
				t.Errorf("%s: %v", line, f)
			}
			continue
		}
		var got []api.Edge
		for _, c := range s.Creases {
			got = append(got, c.E)
		}
		if f != (api.Fault{}) || !slices.Equal(got, want) {
			t.Errorf("%s: %v, %v", line, got, f)
		}
	}
}

func TestP2_4_InOnePieceOrInMany(t *testing.T) {
	head := "sheet 3 3\nfff\nfff\nfff\n"
	one, f := sheet.Read(head + "m 0 0 6 6\nv 0 2 6 2\n")
	many, g := sheet.Read(head + "v 4 2 2 2\nm 6 6 3 3\nv 4 2 6 2\nm 0 0 1 1\nv 0 2 2 2\nm 3 3 1 1\n")
	if f != (api.Fault{}) || g != (api.Fault{}) || !same(one, many) || len(one.Creases) != 9 {
		t.Error(one, f, many, g)
	}
}

// Each row: lines, and what is told of them.
func TestP2_4_Refused(t *testing.T) {
	form, rng, place, twice, parts := api.ErrForm, api.ErrRange, api.ErrPlace, api.ErrTwice, api.ErrParts
	for name, c := range map[string]struct {
		text string
		code api.Errno
		at   int
	}{
		"another first word":          {text("sheets 1 1", "f"), form, 1},
		"a great letter":              {text("Sheet 1 1", "f"), form, 1},
		"a number missing":            {text("sheet 1", "f"), form, 1},
		"a number too many":           {text("sheet 1 1 1", "f"), form, 1},
		"no number":                   {text("sheet 1 x", "f"), form, 1},
		"a sign":                      {text("sheet +1 1", "f"), form, 1},
		"a number below 0":            {text("sheet 1 -1", "f"), form, 1},
		"four digits":                 {text("sheet 0001 1", "f"), form, 1},
		"no digit behind digits":      {text("sheet 1 1f", "f"), form, 1},
		"a digit of another script":   {text("sheet 1 ١", "f"), form, 1},
		"form ahead of range":         {text("sheet 0 x", "f"), form, 1},
		"no width":                    {text("sheet 0 1", "f"), rng, 1},
		"no height":                   {text("sheet 1 000", "f"), rng, 1},
		"too wide":                    {text("sheet 9 1", "fffffffff"), rng, 1},
		"too high":                    {text("sheet 1 9", "f"), rng, 1},
		"much too high":               {text("sheet 1 999", "f"), rng, 1},
		"the line counts, not words":  {text("", "# two", "sheet 1 9", "f"), rng, 3},
		"bytes that part no words":    {text("sheet\v1\f1", "f"), form, 1},
		"a blank of another kind":     {text("sheet\u00a01 1", "f"), form, 1},
		"a nought byte":               {text("sheet 1 1\x00", "f"), form, 1},
		"row too short":               {text("sheet 2 1", "f"), form, 2},
		"row too long":                {text("sheet 2 1", "fff"), form, 2},
		"row of two words":            {text("sheet 2 1", "f f"), form, 2},
		"row of two right words":      {text("sheet 2 1", "ff ff"), form, 2},
		"great letter in a row":       {text("sheet 2 1", "fF"), form, 2},
		"letter behind f":             {text("sheet 2 1", "fg"), form, 2},
		"row with a remark within":    {text("sheet 2 1", "f#f"), form, 2},
		"row of other bytes":          {text("sheet 2 1", "é"), form, 2},
		"second row":                  {text("sheet 1 3", "f", "f f", "x"), form, 3},
		"crease instead of a row":     {text("sheet 1 2", "f", "m 0 0 1 1"), form, 3},
		"a row too many":              {text("sheet 1 1", "f", "f"), form, 3},
		"crease of four words":        {text("sheet 1 1", "f", "m 0 0 1"), form, 3},
		"crease of six words":         {text("sheet 1 1", "f", "m 0 0 1 1 1"), form, 3},
		"no kind":                     {text("sheet 1 1", "f", "x 0 0 1 1"), form, 3},
		"two letters":                 {text("sheet 1 1", "f", "mm 0 0 1 1"), form, 3},
		"two unlike letters":          {text("sheet 1 1", "f", "mx 0 0 1 1"), form, 3},
		"a letter at the end":         {text("sheet 1 1", "f", "xm 0 0 1 1"), form, 3},
		"two other letters":           {text("sheet 1 1", "f", "∧∧ 0 0 1 1"), form, 3},
		"a great kind":                {text("sheet 1 1", "f", "M 0 0 1 1"), form, 3},
		"bytes of a letter":           {text("sheet 1 1", "f", "\xe2\x88 0 0 1 1"), form, 3},
		"a letter and a broken byte":  {text("sheet 1 1", "f", "∧\xff 0 0 1 1"), form, 3},
		"no number in a crease":       {text("sheet 1 1", "f", "m 0 0 1 a"), form, 3},
		"four digits in a crease":     {text("sheet 1 1", "f", "m 0000 0 1 1"), form, 3},
		"number below 0 in a crease":  {text("sheet 1 1", "f", "m 0 0 -1 1"), form, 3},
		"form ahead of range, crease": {text("sheet 1 1", "f", "m 9 0 1 x"), form, 3},
		"X too great":                 {text("sheet 1 2", "f", "f", "m 1 1 3 3"), rng, 4},
		"Y too great":                 {text("sheet 2 1", "ff", "m 1 1 3 3"), rng, 3},
		"first X too great":           {text("sheet 1 2", "f", "f", "m 4 0 2 2"), rng, 4},
		"first Y too great":           {text("sheet 2 1", "ff", "m 0 4 2 2"), rng, 3},
		"greatest number":             {text("sheet 1 1", "f", "m 0 0 999 999"), rng, 3},
		"first is no point":           {text("sheet 1 1", "f", "m 0 1 1 1"), rng, 3},
		"last is no point":            {text("sheet 1 1", "f", "m 0 0 2 1"), rng, 3},
		"neither is a point":          {text("sheet 2 2", "ff", "ff", "m 1 0 3 2"), rng, 4},
		"both points are one":         {text("sheet 1 1", "f", "m 1 1 1 1"), rng, 3},
		"both corners are one":        {text("sheet 1 1", "f", "m 0 0 0 0"), rng, 3},
		"on no line":                  {text("sheet 2 2", "ff", "ff", "m 0 0 4 2"), rng, 4},
		"on no line, falling":         {text("sheet 2 2", "ff", "ff", "m 0 4 1 1"), rng, 4},
		"upright between middles":     {text("sheet 1 2", "f", "f", "m 1 1 1 3"), rng, 4},
		"level between middles":       {text("sheet 2 1", "ff", "m 1 1 3 1"), rng, 3},
		"along the west rim":          {text("sheet 1 1", "f", "m 0 0 0 2"), place, 3},
		"along the south rim":         {text("sheet 1 1", "f", "m 0 0 2 0"), place, 3},
		"along the east rim":          {text("sheet 1 1", "f", "m 2 2 2 0"), place, 3},
		"along the north rim":         {text("sheet 1 1", "f", "m 2 2 0 2"), place, 3},
		"where one is not there":      {text("sheet 1 1", "7", "m 0 0 1 1"), place, 3},
		"where both are not there":    {text("sheet 2 1", "f8", "m 3 1 4 0"), place, 3},
		"the last edge of a line":     {text("sheet 2 2", "f7", "ff", "m 0 0 4 4"), place, 4},
		"the first edge of a line":    {text("sheet 2 2", "f7", "ff", "m 4 4 0 0"), place, 4},
		"place ahead of twice":        {text("sheet 2 2", "f7", "ff", "m 0 0 1 1", "m 0 0 4 4"), place, 5},
		"twice":                       {text("sheet 1 1", "f", "m 0 0 1 1", "m 0 0 1 1"), twice, 4},
		"twice, of two kinds":         {text("sheet 1 1", "f", "m 0 0 1 1", "", "v 1 1 0 0"), twice, 5},
		"twice, in a longer one":      {text("sheet 2 2", "ff", "ff", "v 3 3 2 2", "m 0 0 4 4"), twice, 5},
		"twice, in a shorter one":     {text("sheet 2 2", "ff", "ff", "v 0 0 4 4", "m 4 4 3 3"), twice, 5},
		"the first wrong line":        {text("sheet 1 1", "f", "m 0 0 2 0", "m 0 0 1", "x"), place, 3},
		"wrong ahead of parts":        {text("sheet 1 1", "5", "m 0 0 1 1"), place, 3},
		"no triangle":                 {text("sheet 1 1", "0"), parts, 0},
		"parts":                       {text("sheet 1 1", "5"), parts, 0},
		"parts at a corner":           {text("sheet 2 2", "f0", "0f", "m 0 4 2 2"), parts, 0},
	} {
		if s, f := sheet.Read(c.text); f != (api.Fault{Code: c.code, At: c.at}) || !nothing(s) {
			t.Errorf("%s: %v, %v, wanted %d at %d", name, s, f, c.code, c.at)
		}
	}
}

// Lines that are missing stand behind the last line; a line feed at the end begins none.
func TestP2_4_LinesMissing(t *testing.T) {
	for in, at := range map[string]int{
		"":                            1,
		"\n":                          2,
		"\n\n":                        3,
		" ":                           2,
		"#":                           2,
		"# sheet 1 1":                 2,
		"\n#\n":                       3,
		"sheet 1 1":                   2,
		"sheet 1 1\n":                 2,
		"sheet 1 1\n ":                3,
		"sheet 1 1\n\n":               3,
		"sheet 1 1\n\n#":              4,
		"sheet 1 2\nf":                3,
		"sheet 1 2\nf\n":              3,
		"sheet 1 2\n\nf\n\n":          5,
		"\r\nsheet 1 2\r\nf\r\n\r\n#": 6,
	} {
		if s, f := sheet.Read(in); f != (api.Fault{Code: api.ErrForm, At: at}) || !nothing(s) {
			t.Errorf("%q: %v, %v, wanted line %d", in, s, f, at)
		}
	}
}

func TestP2_4_Size(t *testing.T) {
	right, wrong := "sheet 1 1\nf\n#", "x\n#"
	fill := func(in string, size int) string { return in + strings.Repeat(".", size-len(in)) }
	if s, f := sheet.Read(fill(right, api.MaxText)); f != (api.Fault{}) || !same(s, samples.Full(1, 1)) {
		t.Error("the greatest text:", s, f)
	}
	for _, in := range []string{fill(right, api.MaxText+1), fill(wrong, api.MaxText+1), strings.Repeat("\n", api.MaxText+1), strings.Repeat("x", 1<<20)} {
		if s, f := sheet.Read(in); f != (api.Fault{Code: api.ErrSize}) || !nothing(s) {
			t.Error("too great:", s, f)
		}
	}
	if _, f := sheet.Read(strings.Repeat("\n", api.MaxText)); f != (api.Fault{Code: api.ErrForm, At: api.MaxText + 1}) {
		t.Error("blank lines alone:", f)
	}
}

// Every pair of points of a sheet, held against what the chapter's words say of them.
func TestP2_4_EveryPairOfPoints(t *testing.T) {
	s := samples.Masked(2, 2, 15, 13, 15, 7)
	shown, _ := sheet.Show(s)
	known := map[api.Edge]int{}
	for _, e := range samples.Inner(s) {
		known[e] = 1
	}
	digits := "0123456"
	for n := range 7 * 7 * 7 * 7 {
		e := samples.Edge(n%7, n/7%7, n/49%7, n/343)
		words := []string{"m", digits[n%7:][:1], digits[n/7%7:][:1], digits[n/49%7:][:1], digits[n/343:][:1]}
		_, f := sheet.Read(shown + strings.Join(words, " "))
		if want := codeOf(e, known); f.Code != want {
			t.Errorf("%v: %d, wanted %d", e, f.Code, want)
		}
	}
}

// codeOf a crease between two points of a sheet of 2 and 2 cells.
func codeOf(e api.Edge, known map[api.Edge]int) api.Errno {
	p, q := e.P, e.Q
	for _, c := range []api.Point{p, q} {
		if c.X > 4 || c.Y > 4 || (c.X+c.Y)%2 != 0 {
			return api.ErrRange
		}
	}
	straight := p.X == q.X && p.X%2 == 0 || p.Y == q.Y && p.Y%2 == 0
	slant := p.X+p.Y == q.X+q.Y || p.X-p.Y == q.X-q.Y
	if p == q || !straight && !slant {
		return api.ErrRange
	}
	if p.X > q.X || p.X == q.X && p.Y > q.Y {
		p, q = q, p
	}
	length := max(q.X-p.X, q.Y-p.Y)
	pieces := length
	if straight {
		pieces = length / 2
	}
	dx, dy := (q.X-p.X)/pieces, (q.Y-p.Y)/pieces
	for i := range pieces {
		if known[samples.Edge(p.X+i*dx, p.Y+i*dy, p.X+(i+1)*dx, p.Y+(i+1)*dy)] == 0 {
			return api.ErrPlace
		}
	}
	return api.OK
}

// Texts that were mangled are read as a sheet that may be, or as nothing, but for what is wrong.
func TestP2_4_MangledTexts(t *testing.T) {
	bits := []string{"", "\n", " ", "#", "f", "0", "9", "m ", "∧", "sheet ", "\x80", "\r", "-1", "1000"}
	drawn := uint64(1)
	draw := func(most int) int {
		drawn = drawn*6364136223846793005 + 1442695040888963407
		return int((drawn >> 33) % uint64(most))
	}
	sheets := samples.Good()
	for _, name := range slices.Sorted(maps.Keys(sheets)) {
		shown, e := sheet.Show(sheets[name])
		if e != api.OK {
			t.Fatal(name, e)
		}
		for range 60 {
			at := draw(len(shown))
			end := min(len(shown), at+draw(4))
			in := shown[:at] + bits[draw(len(bits))] + shown[end:]
			got, f := sheet.Read(in)
			switch {
			case f.Code == api.OK && (f.At != 0 || !sheet.May(got)):
				t.Errorf("%q is read as %v, %v", in, got, f)
			case f.Code != api.OK && (!nothing(got) || (f.At == 0) != (f.Code == api.ErrParts) || f.At > strings.Count(in, "\n")+2):
				t.Errorf("%q is refused with %v, %v", in, got, f)
			}
		}
	}
}

func TestP2_4_NewMemory(t *testing.T) {
	in := text("sheet 2 1", "ff", "v 2 0 2 2")
	first, _ := sheet.Read(in)
	first.Mask[0], first.Creases[0] = 3, api.Crease{}
	second, f := sheet.Read(in)
	if f != (api.Fault{}) || !same(second, samples.With(samples.Full(2, 1), samples.Crease(api.Valley, 2, 0, 2, 2))) {
		t.Error("an answer shares memory with an earlier one:", second, f)
	}
}
