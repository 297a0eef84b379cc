package edit_test

import (
	"math/rand/v2"
	"slices"
	"strings"
	"testing"

	"inkhorn/edit"
)

// slow is the distance as the chapter defines it, by trying every first step.
func slow(a []rune, b []rune) int {
	if len(a) == 0 || len(b) == 0 {
		return len(a) + len(b)
	}
	if a[0] == b[0] {
		return slow(a[1:], b[1:])
	}
	return 1 + min(slow(a[1:], b), slow(a, b[1:]), slow(a[1:], b[1:]))
}

func draw(rng *rand.Rand, most int) []rune {
	rs := make([]rune, rng.IntN(most+1))
	for i := range rs {
		rs[i] = []rune{-5, 97, 233, 65533}[rng.IntN(4)]
	}
	return rs
}

func TestRunes(t *testing.T) {
	rng := rand.New(rand.NewPCG(5, 1))
	for range 2000 {
		a, b := draw(rng, 6), draw(rng, 6)
		beforeA, beforeB := slices.Clone(a), slices.Clone(b)
		if got, want := edit.Runes(a, b), slow(a, b); got != want {
			t.Fatalf("P5.1: Runes(%v, %v) = %d, not %d", a, b, got, want)
		}
		rows := edit.Rows(a, b)
		if len(rows) != len(a)+1 {
			t.Fatalf("P5.1: Rows(%v, %v) = %v", a, b, rows)
		}
		for i, d := range rows {
			if d != slow(a[:i], b) {
				t.Fatalf("P5.1: Rows(%v, %v) = %v", a, b, rows)
			}
		}
		if !slices.Equal(a, beforeA) || !slices.Equal(b, beforeB) {
			t.Fatal("R4: an argument was changed")
		}
	}
}

func TestRows(t *testing.T) {
	if got := edit.Rows([]rune("ab"), []rune("b")); !slices.Equal(got, []int{1, 1, 1}) {
		t.Errorf("P5.1: Rows(ab, b) = %v", got)
	}
	if got := edit.Rows(nil, []rune("abc")); !slices.Equal(got, []int{3}) {
		t.Errorf("P5.1: Rows(, abc) = %v", got)
	}
	if got := edit.Rows([]rune("abc"), nil); !slices.Equal(got, []int{0, 1, 2, 3}) {
		t.Errorf("P5.1: Rows(abc, ) = %v", got)
	}
}

func TestDistance(t *testing.T) {
	for _, x := range []struct {
		a, b string
		want int
	}{
		{"abc", "axcd", 2}, {"", "", 0}, {"", "日本", 2}, {"héj", "hej", 1}, {"kitten", "sitting", 3}, {"ab", "ba", 2},
		{"\xff", "a", -1}, {"a", "\xff", -1}, {"", "\ufffd", -1}, {"\xff", "\xff", -1},
	} {
		if got := edit.Distance(x.a, x.b); got != x.want {
			t.Errorf("P5.1: Distance(%q, %q) = %d", x.a, x.b, got)
		}
	}
}

func TestMetric(t *testing.T) {
	rng := rand.New(rand.NewPCG(5, 2))
	for range 3000 {
		a, b, c := draw(rng, 9), draw(rng, 9), draw(rng, 9)
		d := edit.Runes(a, b)
		if (d == 0) != slices.Equal(a, b) || d != edit.Runes(b, a) || d > edit.Runes(a, c)+edit.Runes(c, b) || d < max(len(a)-len(b), len(b)-len(a)) {
			t.Fatalf("P5.2: %v, %v, %v: %d", a, b, c, d)
		}
	}
}

func TestLongTextsEnd(t *testing.T) {
	a, b := strings.Repeat("ab", 1000), strings.Repeat("ba", 1000)
	if got := edit.Distance(a, b); got != 2 {
		t.Errorf("P5.1: the distance of two long texts: %d", got)
	}
}
