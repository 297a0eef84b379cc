package walk_test

import (
	"math"
	"math/rand/v2"
	"slices"
	"strings"
	"testing"

	"inkhorn/api"
	"inkhorn/edit"
	"inkhorn/graph"
	"inkhorn/list"
	"inkhorn/rank"
	"inkhorn/walk"
)

func drawText(rng *rand.Rand, least int, most int) string {
	s := ""
	for range least + rng.IntN(most-least+1) {
		s += string([]rune{97, 98, 98, 26085}[rng.IntN(4)])
	}
	return s
}

func drawGraph(t *testing.T, rng *rand.Rand) (*graph.Graph, []string) {
	t.Helper()
	var drawn []string
	for range rng.IntN(60) {
		drawn = append(drawn, drawText(rng, 1, 3+rng.IntN(10)))
	}
	words := list.Sorted(drawn)
	g, wrong := graph.Build(words)
	if wrong != api.OK {
		t.Fatal(wrong)
	}
	return g, words
}

func TestExamples(t *testing.T) {
	g, _ := graph.Build([]string{"ab", "abc", "b", "zz"})
	items, end := walk.Next(g, "ab", 1, true, api.Item{}, 2)
	if !slices.Equal(items, []api.Item{{Dist: 0, Word: "ab"}, {Dist: 1, Word: "abc"}}) || end {
		t.Errorf("P11.1: the first batch: %v, %v", items, end)
	}
	items, end = walk.Next(g, "ab", 1, false, api.Item{Dist: 1, Word: "abc"}, 2)
	if !slices.Equal(items, []api.Item{{Dist: 1, Word: "b"}}) || !end {
		t.Errorf("P11.1: the second batch: %v, %v", items, end)
	}
}

func TestNextAndDists(t *testing.T) {
	rng := rand.New(rand.NewPCG(11, 1))
	for range 400 {
		g, words := drawGraph(t, rng)
		s, k := drawText(rng, 0, 16), rng.IntN(5)
		if len(words) > 0 && rng.IntN(2) == 0 {
			s = words[rng.IntN(len(words))]
		}
		all := rank.All(words, s, k)
		for batch := -1; batch < 8; batch++ {
			first := rng.IntN(3) == 0
			after := api.Item{Dist: rng.IntN(6) - 1, Word: drawText(rng, 0, 4)}
			if len(all) > 0 && rng.IntN(2) == 0 {
				after = all[rng.IntN(len(all))]
			}
			var rest []api.Item
			for _, i := range all {
				if first || rank.Less(after, i) {
					rest = append(rest, i)
				}
			}
			want := rest[:min(len(rest), max(batch, 0))]
			items, end := walk.Next(g, s, k, first, after, batch)
			if !slices.Equal(items, want) || end != (len(want) == len(rest)) {
				t.Fatalf("P11.1: Next(%q, %d, %v, %v, %d) of %q: %v, %v", s, k, first, after, batch, words, items, end)
			}
		}
		var exact []string
		for _, w := range words {
			if edit.Distance(w, s) == k {
				exact = append(exact, w)
			}
		}
		if got := walk.Dists(g, s, k); !slices.Equal(got, exact) {
			t.Fatalf("P11.1: Dists(%q, %d) of %q = %q", s, k, words, got)
		}
	}
}

func TestWrongArguments(t *testing.T) {
	g, _ := graph.Build([]string{"a", "b"})
	long := strings.Repeat("a", 17)
	for _, x := range []struct {
		g *graph.Graph
		s string
		k int
	}{{nil, "a", 1}, {g, "\xff", 1}, {g, "\ufffd", 1}, {g, long, 4}, {g, "a", -1}, {g, "a", 5}, {g, "a", math.MinInt}, {g, "a", math.MaxInt}} {
		for _, batch := range []int{-1, 0, 3} {
			if items, end := walk.Next(x.g, x.s, x.k, true, api.Item{}, batch); len(items) != 0 || !end {
				t.Errorf("P11.1: Next(%q, %d) = %v, %v", x.s, x.k, items, end)
			}
		}
		if got := walk.Dists(x.g, x.s, x.k); len(got) != 0 {
			t.Errorf("P11.1: Dists(%q, %d) = %q", x.s, x.k, got)
		}
	}
	for _, batch := range []int{0, -1, math.MinInt} {
		if items, end := walk.Next(g, "a", 1, true, api.Item{}, batch); len(items) != 0 || end {
			t.Errorf("P11.1: Next by %d = %v, %v", batch, items, end)
		}
		if items, end := walk.Next(g, "a", 1, false, api.Item{Dist: 1, Word: "b"}, batch); len(items) != 0 || !end {
			t.Errorf("P11.1: Next by %d behind the last = %v, %v", batch, items, end)
		}
	}
	if items, end := walk.Next(g, "a", 1, true, api.Item{Dist: 9}, math.MaxInt); len(items) != 2 || !end {
		t.Errorf("P11.1: Next of all = %v, %v", items, end)
	}
}

func TestBatches(t *testing.T) {
	rng := rand.New(rand.NewPCG(11, 2))
	for range 300 {
		g, words := drawGraph(t, rng)
		s, k, batch := drawText(rng, 0, 8), rng.IntN(5), 1+rng.IntN(5)
		var got []api.Item
		items, end := walk.Next(g, s, k, true, api.Item{}, batch)
		got = append(got, items...)
		for !end {
			items, end = walk.Next(g, s, k, false, got[len(got)-1], batch)
			got = append(got, items...)
		}
		if !slices.Equal(got, rank.All(words, s, k)) {
			t.Fatalf("P11.2: batches of %d of %q near %q: %v", batch, words, s, got)
		}
	}
}
