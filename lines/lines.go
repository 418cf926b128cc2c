// Package lines: lines of words and numbers, as the texts of sheets and of desks have them.
package lines

import (
	"strconv"
	"strings"
)

// Words of a line: what bytes 9, 13 and 32 part.
func Words(line string) []string { return strings.FieldsFunc(line, parts) }

// parts: does it part words?
func parts(c rune) bool { return c == 9 || c == 13 || c == 32 }

// Number of one digit to three, if the word is one.
func Number(word string) (int, bool) {
	if len(word) < 1 || len(word) > 3 {
		return 0, false
	}
	n := 0
	for _, c := range []byte(word) {
		if c < '0' || c > '9' {
			return 0, false
		}
		n = 10*n + int(c-'0')
	}
	return n, true
}

// Of numbers: a line with a blank between two, and a line feed behind.
func Of(numbers ...int) string {
	words := make([]string, 0, len(numbers))
	for _, n := range numbers {
		words = append(words, strconv.Itoa(n))
	}
	return strings.Join(words, " ") + "\n"
}
