// Package text converts between strings and runes, and says which strings are words.
package text

import (
	"cmp"
	"strings"
	"unicode/utf8"

	"inkhorn/api"
)

// Runes returns the runes of s, or false if s is not well-formed.
func Runes(s string) ([]rune, bool) {
	n := Len(s)
	if n < 0 {
		return nil, false
	}
	rs := make([]rune, 0, n)
	for _, r := range s {
		rs = append(rs, r)
	}
	return rs, true
}

// Len returns the number of runes of s, or -1 if s is not well-formed.
func Len(s string) int {
	n := 0
	for _, r := range s {
		// A range yields this rune for bytes that are no UTF-8, too: neither is well-formed.
		if r == utf8.RuneError {
			return -1
		}
		n++
	}
	return n
}

// Word reports whether s may stand in a dictionary.
func Word(s string) bool {
	n := Len(s)
	return n >= 1 && n <= api.MaxWord
}

// Asked reports whether s may be asked for.
func Asked(s string) bool {
	n := Len(s)
	return n >= 0 && n <= api.MaxText
}

// Text returns the string of the runes, or false if one of them can't stand in a well-formed string.
func Text(rs []rune) (string, bool) {
	var b strings.Builder
	for _, r := range rs {
		if r == utf8.RuneError || !utf8.ValidRune(r) {
			return "", false
		}
		b.WriteRune(r)
	}
	return b.String(), true
}

// Compare compares bytewise, also strings that are not well-formed.
func Compare(a string, b string) int {
	return cmp.Compare(a, b)
}

// Prefix returns the first n runes of s as a string.
func Prefix(s string, n int) string {
	if n < 1 || Len(s) < 0 {
		return ""
	}
	count := 0
	for at := range s {
		if count == n {
			return s[:at]
		}
		count++
	}
	return s
}
