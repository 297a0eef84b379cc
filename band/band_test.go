package band_test

import (
	"math"
	"math/rand/v2"
	"slices"
	"strings"
	"testing"

	"inkhorn/band"
	"inkhorn/edit"
)

func TestWithin(t *testing.T) {
	rng := rand.New(rand.NewPCG(6, 1))
	draw := func() []rune {
		rs := make([]rune, rng.IntN(11))
		for i := range rs {
			rs[i] = []rune{-1, 97, 98}[rng.IntN(3)]
		}
		return rs
	}
	for range 3000 {
		a, b := draw(), draw()
		beforeA, beforeB := slices.Clone(a), slices.Clone(b)
		full := edit.Runes(a, b)
		for k := -2; k < 13; k++ {
			want, near := full, full <= k
			if !near {
				want = 0
			}
			if d, ok := band.Within(a, b, k); d != want || ok != near {
				t.Fatalf("P6.1: Within(%v, %v, %d) = %d, %v; the distance is %d", a, b, k, d, ok, full)
			}
		}
		if !slices.Equal(a, beforeA) || !slices.Equal(b, beforeB) {
			t.Fatal("R4: an argument was changed")
		}
	}
}

func TestBounds(t *testing.T) {
	a, b := []rune("abc"), []rune("axcd")
	for k, want := range map[int]bool{math.MinInt: false, -1: false, 0: false, 1: false, 2: true, 3: true, 4: true, 5: true, math.MaxInt: true} {
		d, ok := band.Within(a, b, k)
		if ok != want || ok && d != 2 || !ok && d != 0 {
			t.Errorf("P6.1: Within at %d = %d, %v", k, d, ok)
		}
	}
	if d, ok := band.Within(nil, nil, 0); d != 0 || !ok {
		t.Errorf("P6.1: Within of nothing = %d, %v", d, ok)
	}
	if d, ok := band.Within(nil, nil, -1); d != 0 || ok {
		t.Errorf("P6.1: Within of nothing at -1 = %d, %v", d, ok)
	}
}

func TestNear(t *testing.T) {
	for _, x := range []struct {
		a, b string
		k    int
		want int
		ok   bool
	}{
		{"abc", "axcd", 2, 2, true}, {"abc", "axcd", 1, 0, false}, {"héj", "hej", 1, 1, true}, {"héj", "hej", 0, 0, false},
		{"", "", 0, 0, true}, {"", "ab", 2, 2, true}, {"\xff", "a", 4, 0, false}, {"a", "\ufffd", 4, 0, false}, {"\xff", "\xff", 9, 0, false},
	} {
		if d, ok := band.Near(x.a, x.b, x.k); d != x.want || ok != x.ok {
			t.Errorf("P6.1: Near(%q, %q, %d) = %d, %v", x.a, x.b, x.k, d, ok)
		}
	}
	long := strings.Repeat("ab", 50000)
	if d, ok := band.Near(long+"c", "c"+long, 2); d != 2 || !ok {
		t.Errorf("P6.1: Near of two long texts = %d, %v", d, ok)
	}
}
