package auto_test

import (
	"math"
	"math/rand/v2"
	"slices"
	"testing"

	"inkhorn/api"
	"inkhorn/auto"
	"inkhorn/edit"
)

// state is the state of q after p as the chapter defines it.
func state(q []rune, p []rune, k int) []api.Pos {
	var all, out []api.Pos
	for i := range len(q) + 1 {
		if d := edit.Runes(q[:i], p); d <= k {
			all = append(all, api.Pos{At: i, Dist: d})
		}
	}
	for _, a := range all {
		if !slices.ContainsFunc(all, func(b api.Pos) bool {
			return b.Dist < a.Dist && max(a.At-b.At, b.At-a.At) <= a.Dist-b.Dist
		}) {
			out = append(out, a)
		}
	}
	return out
}

func draw(rng *rand.Rand, most int) []rune {
	rs := make([]rune, rng.IntN(most+1))
	for i := range rs {
		rs[i] = []rune{97, 98, 26085}[rng.IntN(3)]
	}
	return rs
}

func TestExamples(t *testing.T) {
	q := []rune("ab")
	start := auto.Start(q, 1)
	if !slices.Equal(start, []api.Pos{{At: 0, Dist: 0}}) {
		t.Errorf("P7.1: Start = %v", start)
	}
	if got := auto.Step(q, 1, start, 'x'); !slices.Equal(got, []api.Pos{{At: 0, Dist: 1}, {At: 1, Dist: 1}}) {
		t.Errorf("P7.1: Step with x = %v", got)
	}
	if got := auto.Step(q, 1, start, 'a'); !slices.Equal(got, []api.Pos{{At: 1, Dist: 0}}) {
		t.Errorf("P7.1: Step with a = %v", got)
	}
}

func TestStates(t *testing.T) {
	rng := rand.New(rand.NewPCG(7, 1))
	for range 3000 {
		q, p, k := draw(rng, 16), draw(rng, 14), rng.IntN(api.MaxK+1)
		if rng.IntN(2) == 0 {
			p = append(slices.Clone(q[:rng.IntN(len(q)+1)]), draw(rng, 3)...)
		}
		s := auto.Start(q, k)
		for i := range len(p) + 1 {
			want := state(q, p[:i], k)
			if !slices.Equal(s, want) {
				t.Fatalf("P7.1: the state of %v after %v for %d: %v, not %v", q, p[:i], k, s, want)
			}
			if auto.Dead(s) != (len(want) == 0) {
				t.Fatalf("P7.1: Dead(%v)", s)
			}
			if len(s) > 2*k+1 {
				t.Fatalf("P7.2: %d positions for %d", len(s), k)
			}
			full := edit.Runes(q, p[:i])
			d, ok := auto.Dist(q, k, s)
			if ok != (full <= k) || ok && d != full || !ok && d != 0 {
				t.Fatalf("P7.2: Dist of %v and %v for %d: %d, %v", q, p[:i], k, d, ok)
			}
			if i < len(p) {
				before := slices.Clone(s)
				next := auto.Step(q, k, s, p[i])
				if !slices.Equal(s, before) {
					t.Fatal("R4: Step changed its argument")
				}
				s = next
			}
		}
	}
}

func TestBoundsOfK(t *testing.T) {
	q := []rune("ab")
	for _, k := range []int{-1, api.MaxK + 1, 7, math.MinInt, math.MaxInt} {
		s := auto.Start(q, k)
		if len(s) != 0 || !auto.Dead(s) {
			t.Errorf("P7.1: Start for %d = %v", k, s)
		}
		if next := auto.Step(q, k, s, 'a'); len(next) != 0 {
			t.Errorf("P7.1: Step for %d = %v", k, next)
		}
		if d, ok := auto.Dist(q, k, s); d != 0 || ok {
			t.Errorf("P7.1: Dist for %d = %d, %v", k, d, ok)
		}
		// What is a state for another bound is none for this one.
		for _, other := range [][]api.Pos{auto.Start(q, 1), auto.Step(q, 1, auto.Start(q, 1), 'x'), auto.Start(q, api.MaxK)} {
			for _, r := range []rune{'a', 'x'} {
				if next := auto.Step(q, k, other, r); len(next) != 0 || !auto.Dead(next) {
					t.Errorf("P7.1: Step of %v for %d with %q = %v", other, k, r, next)
				}
			}
		}
	}
	for k := range api.MaxK + 1 {
		if s := auto.Start(nil, k); !slices.Equal(s, []api.Pos{{}}) {
			t.Errorf("P7.1: Start of nothing for %d = %v", k, s)
		}
		if next := auto.Step(q, k, auto.Start(q, k), 'a'); !slices.Equal(next, []api.Pos{{At: 1}}) {
			t.Errorf("P7.1: Step for %d = %v", k, next)
		}
	}
}

func TestOddStatesEnd(t *testing.T) {
	odd := []api.Pos{{At: -1, Dist: 0}, {At: math.MaxInt, Dist: 1}, {At: 1, Dist: math.MaxInt}, {At: 1, Dist: math.MinInt}, {At: math.MinInt, Dist: -1}, {At: 1, Dist: 1}, {At: 0, Dist: 4}}
	for _, k := range []int{math.MinInt, -1, 0, 4, 5, math.MaxInt} {
		for _, q := range [][]rune{nil, []rune("ab")} {
			auto.Step(q, k, odd, -7)
			auto.Dist(q, k, odd)
			auto.Dead(odd)
		}
	}
}
