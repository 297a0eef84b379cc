package part_test

import (
	"math"
	"math/rand/v2"
	"slices"
	"strings"
	"testing"

	"inkhorn/api"
	"inkhorn/edit"
	"inkhorn/part"
	"inkhorn/text"
)

var two = []api.Key{{Len: 2}, {Len: 3, Text: "m"}}

func TestGood(t *testing.T) {
	six := []api.Key{{Len: 1}, {Len: 2}, {Len: 3}, {Len: 4}, {Len: 5}, {Len: 6}}
	bad := slices.Clone(six)
	bad[0].Len = 99
	for _, x := range []struct {
		cuts []api.Key
		want api.Errno
	}{
		{nil, api.OK}, {two, api.OK}, {six[:5], api.OK}, {[]api.Key{{Len: 1}}, api.OK}, {[]api.Key{{Len: 12, Text: strings.Repeat("é", 12)}}, api.OK},
		{[]api.Key{{Len: 2, Text: "a"}, {Len: 2, Text: "b"}}, api.OK}, {[]api.Key{{Len: 1, Text: "zzz"}, {Len: 2}}, api.OK},
		{six, api.ErrFull}, {bad, api.ErrFull},
		{[]api.Key{{Len: 0}}, api.ErrArg}, {[]api.Key{{Len: 13}}, api.ErrArg}, {[]api.Key{{Len: -1}}, api.ErrArg}, {[]api.Key{{Len: 1, Text: "\xff"}}, api.ErrArg},
		{[]api.Key{{Len: 1, Text: strings.Repeat("a", 13)}}, api.ErrArg}, {[]api.Key{{Len: 3}, {Len: 2}, {Len: 0}}, api.ErrArg}, {[]api.Key{{Len: 3}, {Len: 2, Text: "\ufffd"}}, api.ErrArg},
		{[]api.Key{{Len: 3}, {Len: 2}}, api.ErrSort}, {[]api.Key{{Len: 3}, {Len: 3}}, api.ErrSort}, {[]api.Key{{Len: 3, Text: "b"}, {Len: 3, Text: "a"}}, api.ErrSort},
	} {
		if got := part.Good(x.cuts); got != x.want {
			t.Errorf("P12.1: Good(%v) = %d, not %d", x.cuts, got, x.want)
		}
	}
}

func TestLess(t *testing.T) {
	rising := []api.Key{{Len: math.MinInt}, {}, {Text: "a"}, {Text: "\xff"}, {Len: 1}, {Len: 1, Text: "z"}, {Len: 1, Text: "é"}, {Len: math.MaxInt}}
	for i, a := range rising {
		for j, b := range rising {
			if part.Less(a, b) != (i < j) {
				t.Errorf("P12.1: Less(%v, %v)", a, b)
			}
		}
	}
}

func TestOfAndSlice(t *testing.T) {
	for w, want := range map[string]int{"z": 0, "é": 0, "aa": 1, "zz": 1, "llz": 1, "m": 0, "mmm": 2, "maa": 2, "lzz": 1, "abcd": 2, "": -1, "\xff": -1, strings.Repeat("a", 13): -1} {
		if got := part.Of(two, w); got != want {
			t.Errorf("P12.1: Of(%q) = %d", w, got)
		}
	}
	if part.Of([]api.Key{{Len: 3, Text: "mmm"}}, "mmm") != 1 || part.Of(nil, "a") != 0 {
		t.Error("P12.1: a word that is a cut")
	}
	words := []string{"zz", "mmm", "", "aa", "z", "\xff", "zz"}
	for shard, want := range map[int][]string{0: {"z"}, 1: {"zz", "aa", "zz"}, 2: {"mmm"}, 3: nil, -1: nil, math.MinInt: nil, math.MaxInt: nil} {
		got := part.Slice(two, words, shard)
		if !slices.Equal(got, want) {
			t.Errorf("P12.1: Slice of %d = %q", shard, got)
		}
		if len(got) > 0 {
			got[0] = "x"
		}
	}
	if words[0] != "zz" || words[4] != "z" {
		t.Error("R4: Slice returned its argument")
	}
}

func TestLens(t *testing.T) {
	for _, x := range []struct {
		cuts        []api.Key
		shard       int
		least, most int
	}{
		{two, 0, 1, 1}, {two, 1, 2, 3}, {two, 2, 3, 12}, {two, 3, 1, 0}, {two, -1, 1, 0}, {two, math.MaxInt, 1, 0}, {two, math.MinInt, 1, 0},
		{nil, 0, 1, 12}, {nil, 1, 1, 0}, {[]api.Key{{Len: 1}}, 0, 1, 0}, {[]api.Key{{Len: 1}}, 1, 1, 12},
		{[]api.Key{{Len: 4}, {Len: 4, Text: "b"}}, 1, 4, 4}, {[]api.Key{{Len: 4, Text: "b"}, {Len: 5}}, 1, 4, 4},
	} {
		if least, most := part.Lens(x.cuts, x.shard); least != x.least || most != x.most {
			t.Errorf("P12.2: Lens(%v, %d) = %d, %d", x.cuts, x.shard, least, most)
		}
	}
}

func TestLeast(t *testing.T) {
	for _, x := range []struct {
		cuts           []api.Key
		shard, n, want int
	}{
		{two, 1, 6, 3}, {two, 1, 4, 1}, {two, 1, 3, 0}, {two, 1, 2, 0}, {two, 1, 0, 2}, {two, 0, 0, 1}, {two, 2, 12, 0}, {two, 2, 16, 4},
		{two, 3, 1, -1}, {two, -1, 1, -1}, {[]api.Key{{Len: 1}}, 0, 1, -1}, {[]api.Key{{Len: 1}}, 1, 1, 0},
	} {
		if got := part.Least(x.cuts, x.shard, x.n); got != x.want {
			t.Errorf("P12.2: Least(%v, %d, %d) = %d", x.cuts, x.shard, x.n, got)
		}
	}
}

func TestEveryWordHasOneShard(t *testing.T) {
	rng := rand.New(rand.NewPCG(12, 1))
	draw := func(least int, most int) string {
		s := ""
		for range least + rng.IntN(most-least+1) {
			s += string([]rune{97, 109, 233}[rng.IntN(3)])
		}
		return s
	}
	for range 500 {
		var cuts []api.Key
		for range rng.IntN(6) {
			cuts = append(cuts, api.Key{Len: 1 + rng.IntN(4), Text: draw(0, 3)})
		}
		slices.SortFunc(cuts, func(a, b api.Key) int {
			if part.Less(a, b) {
				return -1
			}
			return 1
		})
		cuts = slices.Compact(cuts)
		if part.Good(cuts) != api.OK {
			t.Fatalf("P12.1: Good(%v)", cuts)
		}
		w, s := draw(1, 5), draw(0, 8)
		found := 0
		for shard := range len(cuts) + 1 {
			if len(part.Slice(cuts, []string{w}, shard)) == 1 {
				found++
				least, most := part.Lens(cuts, shard)
				n := text.Len(w)
				if part.Of(cuts, w) != shard || n < least || n > most || edit.Distance(w, s) < part.Least(cuts, shard, text.Len(s)) {
					t.Fatalf("P12.2: %q in shard %d of %v", w, shard, cuts)
				}
			}
		}
		if found != 1 {
			t.Fatalf("P12.3: %q is in %d shards of %v", w, found, cuts)
		}
	}
}

func TestInvalidCutsEnd(t *testing.T) {
	odd := []api.Key{{Len: math.MaxInt, Text: "\xff"}, {Len: math.MinInt}, {Len: 3}}
	for shard := -1; shard < 5; shard++ {
		part.Lens(odd, shard)
		part.Least(odd, shard, math.MinInt)
		part.Slice(odd, []string{"a"}, shard)
	}
	part.Of(odd, "a")
}
