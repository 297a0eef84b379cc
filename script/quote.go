package script

import "strings"

const (
	quote  = '"'
	escape = '\\'
	digits = "0123456789abcdef"
)

// Quote returns s as a quoted string.
func Quote(s string) string {
	var b strings.Builder
	b.WriteByte(quote)
	for _, c := range []byte(s) {
		if plain(c) {
			b.WriteByte(c)
			continue
		}
		b.WriteByte(escape)
		b.WriteByte(digits[c>>4])
		b.WriteByte(digits[c&15])
	}
	b.WriteByte(quote)
	return b.String()
}

// Unquote returns the string whose quoted form is s.
func Unquote(s string) (string, bool) {
	if len(s) < 2 || s[0] != quote || s[len(s)-1] != quote {
		return "", false
	}
	body := s[1 : len(s)-1]
	var b strings.Builder
	skip := 0
	for at, r := range body {
		if skip > 0 {
			skip--
			continue
		}
		if r != escape {
			b.WriteByte(byte(r))
			continue
		}
		c, ok := escaped(body[at+1:])
		if !ok {
			return "", false
		}
		b.WriteByte(c)
		skip = 2
	}
	// Whatever else was written in another way than Quote writes it shows here.
	out := b.String()
	if Quote(out) != s {
		return "", false
	}
	return out, true
}

// plain reports whether a byte stands for itself.
func plain(c byte) bool {
	return c > ' ' && c <= '~' && c != quote && c != escape
}

// escaped returns the byte that the first two digits of s stand for.
func escaped(s string) (byte, bool) {
	if len(s) < 2 {
		return 0, false
	}
	high := strings.IndexByte(digits, s[0])
	low := strings.IndexByte(digits, s[1])
	if high < 0 || low < 0 {
		return 0, false
	}
	return byte(high<<4 | low), true
}
