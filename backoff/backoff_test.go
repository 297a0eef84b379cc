package backoff_test

import (
	"math"
	"math/rand/v2"
	"testing"

	"inkhorn/api"
	"inkhorn/backoff"
)

func config(first int, most int, jitter int) api.Config {
	return api.Config{First: first, Cap: most, Jitter: jitter}
}

func TestWait(t *testing.T) {
	for _, x := range []struct {
		c               api.Config
		try, draw, want int
	}{
		{config(2, 9, 3), 1, 5, 5}, {config(2, 9, 3), 4, 0, 9}, {config(2, 9, 3), 0, 0, 2}, {config(2, 9, 3), 2, 3, 9 + 2}, {config(2, 9, 3), 2, 4, 8},
		{config(2, 9, 3), -5, 0, 2}, {config(2, 9, 3), math.MinInt, 0, 2}, {config(1, 50, 0), 5, 99, 32}, {config(1, 999, 0), 6, 0, 64}, {config(1, 999, 0), 7, 0, 64}, {config(1, 999, 0), math.MaxInt, 0, 64},
		{config(-1, 9, 0), 3, 0, 0}, {config(5, -1, 0), 3, 0, 0}, {config(5, 9, -1), 0, 7, 5}, {config(1001, 2000, 0), 0, 0, 1000}, {config(math.MaxInt, math.MaxInt, math.MaxInt), 6, 1000, 2000},
		{config(math.MaxInt, math.MaxInt, math.MaxInt), 6, 1001, 1000}, {config(math.MinInt, math.MinInt, math.MinInt), 6, 1, 0},
		// 2^64 - 1 leaves 5 by 10 and 3 by 4.
		{config(1, 9, 9), 0, -1, 6}, {config(1, 9, 3), 0, -1, 4}, {config(1, 9, 2), 0, math.MinInt, 1 + int(uint64(1<<63)%3)},
	} {
		if got := backoff.Wait(x.c, x.try, x.draw); got != x.want {
			t.Errorf("P18.1: Wait(%d %d %d, %d, %d) = %d, not %d", x.c.First, x.c.Cap, x.c.Jitter, x.try, x.draw, got, x.want)
		}
	}
}

func TestTry(t *testing.T) {
	for try, want := range map[int]int{0: 1, 1: 2, 4: 5, 5: 6, 6: 6, 7: 6, math.MaxInt: 6, -1: 1, math.MinInt: 1} {
		if got := backoff.Try(try); got != want {
			t.Errorf("P18.1: Try(%d) = %d", try, got)
		}
	}
}

func TestMost(t *testing.T) {
	for _, x := range []struct {
		c    api.Config
		want int
	}{{config(2, 9, 3), 12}, {config(2, 50, 10), 60}, {config(2, -1, -1), 0}, {config(2, 1001, math.MaxInt), 2000}, {config(2000, 0, 0), 0}} {
		if got := backoff.Most(x.c); got != x.want {
			t.Errorf("P18.1: Most = %d, not %d", got, x.want)
		}
	}
}

func TestNoDelayIsLonger(t *testing.T) {
	rng := rand.New(rand.NewPCG(18, 1))
	for range 5000 {
		c := config(rng.IntN(1200)-100, rng.IntN(1200)-100, rng.IntN(1200)-100)
		if got := backoff.Wait(c, rng.IntN(12)-2, int(rng.Uint64())); got > backoff.Most(c) || got < 0 {
			t.Fatalf("P18.2: %d %d %d: %d", c.First, c.Cap, c.Jitter, got)
		}
	}
}
