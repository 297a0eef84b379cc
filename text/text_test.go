package text_test

import (
	"math"
	"math/rand/v2"
	"slices"
	"strings"
	"testing"

	"inkhorn/text"
)

var malformed = []string{"\xff", "a\xc3", "\ufffd", "ab\ufffdc", "\xed\xa0\x80", "\xf4\x90\x80\x80", "\xc0\x80", "aé\x80"}

func TestRunesAndLen(t *testing.T) {
	for s, want := range map[string][]rune{
		"":             {},
		"\x00":         {0},
		"aé":           {97, 233},
		"日本x":          {26085, 26412, 120},
		"\U0010ffff":   {1114111},
		"\ud7ff\ue000": {55295, 57344},
		"\ufffc\ufffe": {65532, 65534},
	} {
		rs, ok := text.Runes(s)
		if !ok || !slices.Equal(rs, want) {
			t.Errorf("P1.1: Runes(%q) = %v, %v", s, rs, ok)
		}
		if n := text.Len(s); n != len(want) {
			t.Errorf("P1.1: Len(%q) = %d", s, n)
		}
	}
	for _, s := range malformed {
		if rs, ok := text.Runes(s); ok || len(rs) != 0 {
			t.Errorf("P1.1: Runes(%q) = %v, %v", s, rs, ok)
		}
		if n := text.Len(s); n != -1 {
			t.Errorf("P1.1: Len(%q) = %d", s, n)
		}
	}
}

func TestWordAndAsked(t *testing.T) {
	for s, want := range map[string][2]bool{
		"":                       {false, true},
		"a":                      {true, true},
		strings.Repeat("é", 12):  {true, true},
		strings.Repeat("é", 13):  {false, true},
		strings.Repeat("日", 16):  {false, true},
		strings.Repeat("日", 17):  {false, false},
		strings.Repeat("a", 999): {false, false},
		"a\xff":                  {false, false},
		"\ufffd":                 {false, false},
	} {
		if got := [2]bool{text.Word(s), text.Asked(s)}; got != want {
			t.Errorf("P1.1: Word, Asked of %q = %v", s, got)
		}
	}
}

func TestText(t *testing.T) {
	for _, bad := range []rune{-1, math.MinInt32, 55296, 56000, 57343, 65533, 1114112, math.MaxInt32} {
		for _, rs := range [][]rune{{bad}, {97, bad}, {bad, 97}} {
			if s, ok := text.Text(rs); ok || s != "" {
				t.Errorf("P1.1: Text(%v) = %q, %v", rs, s, ok)
			}
		}
	}
	for want, rs := range map[string][]rune{"": nil, "\x00": {0}, "aé": {97, 233}, "\ud7ff\ue000\U0010ffff": {55295, 57344, 1114111}} {
		if s, ok := text.Text(rs); !ok || s != want {
			t.Errorf("P1.1: Text(%v) = %q, %v", rs, s, ok)
		}
	}
}

func TestCompare(t *testing.T) {
	rising := []string{"", "\x00", "a", "a\x00", "aa", "b", "z", "é", "\ufffd", "\U0010ffff", "\xff"}
	for i, a := range rising {
		for j, b := range rising {
			want := 0
			if i < j {
				want = -1
			} else if i > j {
				want = 1
			}
			if got := text.Compare(a, b); got != want {
				t.Errorf("P1.1: Compare(%q, %q) = %d", a, b, got)
			}
		}
	}
}

func TestPrefix(t *testing.T) {
	for _, x := range []struct {
		s    string
		n    int
		want string
	}{
		{"héj", 1, "h"}, {"héj", 2, "hé"}, {"héj", 3, "héj"}, {"héj", 4, "héj"}, {"héj", math.MaxInt, "héj"},
		{"héj", 0, ""}, {"héj", -1, ""}, {"héj", math.MinInt, ""}, {"", 3, ""},
		{"h\xff", 1, ""}, {"hé\ufffd", 2, ""}, {"日本", 1, "日"},
	} {
		if got := text.Prefix(x.s, x.n); got != x.want {
			t.Errorf("P1.1: Prefix(%q, %d) = %q", x.s, x.n, got)
		}
	}
}

func TestRoundTripAndOrder(t *testing.T) {
	rng := rand.New(rand.NewPCG(1, 1))
	pool := []rune{0, 9, 97, 98, 127, 128, 233, 2047, 2048, 55295, 57344, 65532, 65534, 65535, 65536, 1114111}
	draw := func() []rune {
		rs := make([]rune, rng.IntN(5))
		for i := range rs {
			rs[i] = pool[rng.IntN(len(pool))]
		}
		return rs
	}
	for range 2000 {
		a, b := draw(), draw()
		s, okS := text.Text(a)
		u, okU := text.Text(b)
		if !okS || !okU {
			t.Fatalf("P1.2: Text(%v), Text(%v)", a, b)
		}
		if back, ok := text.Runes(s); !ok || !slices.Equal(back, a) {
			t.Fatalf("P1.2: %v became %v", a, back)
		}
		if text.Compare(s, u) != slices.Compare(a, b) {
			t.Fatalf("P1.2: bytes and runes disagree on %v, %v", a, b)
		}
	}
}
