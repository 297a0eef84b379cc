package rank_test

import (
	"math"
	"math/rand/v2"
	"slices"
	"strings"
	"testing"

	"inkhorn/api"
	"inkhorn/edit"
	"inkhorn/rank"
)

func TestMay(t *testing.T) {
	for _, x := range []struct {
		q    api.Query
		want bool
	}{
		{api.Query{Text: "", K: 0, N: 1}, true}, {api.Query{Text: "ab", K: 4, N: 10}, true}, {api.Query{Text: strings.Repeat("é", 16), K: 1, N: 1}, true},
		{api.Query{Text: strings.Repeat("é", 17), K: 1, N: 1}, false}, {api.Query{Text: "\xff", K: 1, N: 1}, false}, {api.Query{Text: "\ufffd", K: 1, N: 1}, false},
		{api.Query{Text: "a", K: -1, N: 1}, false}, {api.Query{Text: "a", K: 5, N: 1}, false}, {api.Query{Text: "a", K: 1, N: 0}, false}, {api.Query{Text: "a", K: 1, N: 11}, false},
		{api.Query{}, false}, {api.Query{Text: "a", K: math.MaxInt, N: math.MinInt}, false},
	} {
		if got := rank.May(x.q); got != x.want {
			t.Errorf("P10.1: May(%v) = %v", x.q, got)
		}
	}
}

func TestLessAndSort(t *testing.T) {
	rising := []api.Item{{Dist: math.MinInt, Word: "z"}, {Dist: -1, Word: "b"}, {}, {Word: "a"}, {Word: "aa"}, {Word: "é"}, {Word: "\xff"}, {Dist: 1}, {Dist: 1, Word: "a"}, {Dist: math.MaxInt}}
	for i, a := range rising {
		for j, b := range rising {
			if rank.Less(a, b) != (i < j) {
				t.Errorf("P10.1: Less(%v, %v)", a, b)
			}
		}
	}
	rng := rand.New(rand.NewPCG(10, 1))
	for range 200 {
		mixed := slices.Clone(rising)
		rng.Shuffle(len(mixed), func(i, j int) { mixed[i], mixed[j] = mixed[j], mixed[i] })
		before := slices.Clone(mixed)
		if got := rank.Sort(mixed); !slices.Equal(got, rising) {
			t.Fatalf("P10.1: Sort = %v", got)
		}
		if !slices.Equal(mixed, before) {
			t.Fatal("R4: Sort changed its argument")
		}
	}
	twice := []api.Item{{Word: "b"}, {Word: "a"}, {Word: "b"}}
	got := rank.Sort(twice)
	if !slices.Equal(got, []api.Item{{Word: "a"}, {Word: "b"}, {Word: "b"}}) {
		t.Errorf("P10.1: Sort of equal items = %v", got)
	}
	one := []api.Item{{Word: "a"}}
	rank.Sort(one)[0].Word = "x"
	if one[0].Word != "a" || len(rank.Sort(nil)) != 0 {
		t.Error("R4: Sort returned its argument")
	}
}

func TestAllAndTop(t *testing.T) {
	words := []string{"ab", "abc", "b"}
	if got := rank.Top(words, api.Query{Text: "ab", K: 1, N: 2}); !slices.Equal(got, []api.Item{{Word: "ab"}, {Dist: 1, Word: "abc"}}) {
		t.Errorf("P10.1: Top = %v", got)
	}
	mixed := []string{"zb", "b", "a\xff", "", "ab", "b", "\ufffd", strings.Repeat("b", 20), "日本"}
	before := slices.Clone(mixed)
	for _, s := range []string{"", "b", "ab", "日", strings.Repeat("b", 19)} {
		for k := -1; k < 25; k++ {
			var want []api.Item
			for _, w := range mixed {
				if d := edit.Distance(w, s); d >= 0 && d <= k {
					want = append(want, api.Item{Dist: d, Word: w})
				}
			}
			want = rank.Sort(want)
			if got := rank.All(mixed, s, k); !slices.Equal(got, want) {
				t.Fatalf("P10.1: All(%q, %d) = %v, not %v", s, k, got, want)
			}
			for n := range 13 {
				q := api.Query{Text: s, K: k, N: n}
				top := want[:min(n, len(want))]
				if k < 0 || k > 4 || n < 1 || n > 10 || len(s) > 16 {
					top = nil
				}
				if got := rank.Top(mixed, q); !slices.Equal(got, top) {
					t.Fatalf("P10.1: Top(%v) = %v, not %v", q, got, top)
				}
			}
		}
	}
	if !slices.Equal(mixed, before) {
		t.Error("R4: the words were changed")
	}
	for _, s := range []string{"\xff", "\ufffd"} {
		if len(rank.All(mixed, s, 9)) != 0 || len(rank.Top(mixed, api.Query{Text: s, K: 4, N: 5})) != 0 {
			t.Errorf("P10.1: items for %q", s)
		}
	}
	if got := rank.All(mixed, "b", math.MaxInt); len(got) != 7 {
		t.Errorf("P10.1: All without a bound: %v", got)
	}
}
