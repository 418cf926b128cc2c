package lines_test

import (
	"slices"
	"strconv"
	"strings"
	"testing"

	"pleat/lines"
)

func TestWords(t *testing.T) {
	for line, want := range map[string][]string{
		"":                        nil,
		" \t\r \t":                nil,
		"one":                     {"one"},
		"one two":                 {"one", "two"},
		"\t one\r\r2 \t3x\r":      {"one", "2", "3x"},
		"a\nb\vc\fd":              {"a\nb\vc\fd"},
		"a\u00a0b\u0085c\u2003d":  {"a\u00a0b\u0085c\u2003d"},
		"\x00 \xff\xfe \xe2\x88 ": {"\x00", "\xff\xfe", "\xe2\x88"},
	} {
		if got := lines.Words(line); !slices.Equal(got, want) {
			t.Errorf("%q: %q, wanted %q", line, got, want)
		}
	}
}

func TestNumber(t *testing.T) {
	for n := range 1000 {
		for _, word := range []string{strconv.Itoa(n), "0" + strconv.Itoa(n), "00" + strconv.Itoa(n)} {
			if got, ok := lines.Number(word); ok != (len(word) <= 3) || ok && got != n || !ok && got != 0 {
				t.Errorf("%s: %d, %v", word, got, ok)
			}
		}
	}
	for _, word := range []string{"", "-", "-1", "+1", "1-", " 1", "1.", "a", "1a", "0x1", "1e1", "1_0", "1000", "0001", "٣", "\x00", "1\n", "/", ":", strings.Repeat("1", 99)} {
		if got, ok := lines.Number(word); ok || got != 0 {
			t.Errorf("%q: %d", word, got)
		}
	}
}

func TestOf(t *testing.T) {
	for want, numbers := range map[string][]int{"\n": nil, "0\n": {0}, "12 -3\n": {12, -3}, "1 2 3 4\n": {1, 2, 3, 4}} {
		if got := lines.Of(numbers...); got != want {
			t.Errorf("%v: %q", numbers, got)
		}
	}
}
