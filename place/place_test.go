package place_test

import (
	"bytes"
	"math"
	"slices"
	"strconv"
	"testing"

	"inkhorn/api"
	"inkhorn/pack"
	"inkhorn/place"
)

func config() api.Config {
	return api.Config{
		Words: []string{"a", "ab", "abc", "b", "zz"}, Cuts: []api.Key{{Len: 2}, {Len: 3, Text: "m"}},
		Workers: 3, Copies: 2, Slots: 2, Batch: 3, Lease: 20, Hedge: 5, First: 2, Cap: 8, Jitter: 1, Net: 32,
	}
}

func TestMay(t *testing.T) {
	if !place.May(config()) || place.May(api.Config{}) {
		t.Error("P13.1: May")
	}
	for name, x := range map[string]struct {
		field       func(c *api.Config) *int
		least, most int
	}{
		"Workers": {func(c *api.Config) *int { return &c.Workers }, 2, 5},
		"Copies":  {func(c *api.Config) *int { return &c.Copies }, 1, 3},
		"Slots":   {func(c *api.Config) *int { return &c.Slots }, 1, 4},
		"Batch":   {func(c *api.Config) *int { return &c.Batch }, 1, 5},
		"Lease":   {func(c *api.Config) *int { return &c.Lease }, 1, 1000},
		"Hedge":   {func(c *api.Config) *int { return &c.Hedge }, 1, 1000},
		"First":   {func(c *api.Config) *int { return &c.First }, 1, 8},
		"Cap":     {func(c *api.Config) *int { return &c.Cap }, 2, 50},
		"Jitter":  {func(c *api.Config) *int { return &c.Jitter }, 0, 10},
		"Net":     {func(c *api.Config) *int { return &c.Net }, 8, 64},
	} {
		c := config()
		for _, n := range []int{math.MinInt, x.least - 1, x.least, x.most, x.most + 1, math.MaxInt} {
			*x.field(&c) = n
			if place.May(c) != (n >= x.least && n <= x.most) {
				t.Errorf("P13.1: May with %s %d = %v", name, n, place.May(c))
			}
		}
	}
	c := config()
	c.First, c.Cap = 10, 50
	if !place.May(c) {
		t.Error("P13.1: First 10")
	}
	c.First = 11
	if place.May(c) {
		t.Error("P13.1: First 11")
	}
	one := config()
	one.Workers, one.Copies = 1, 1
	if !place.May(one) {
		t.Error("P13.1: one worker")
	}
	one.Copies = 2
	if place.May(one) {
		t.Error("P13.1: more copies than workers")
	}
	four := config()
	four.Workers, four.Copies = 5, 4
	if place.May(four) {
		t.Error("P13.1: four copies")
	}
	for _, words := range [][]string{{"b", "a"}, {""}} {
		c := config()
		c.Words = words
		if place.May(c) {
			t.Errorf("P13.1: words %q", words)
		}
	}
	cuts := config()
	cuts.Cuts = []api.Key{{Len: 3}, {Len: 2}}
	if place.May(cuts) {
		t.Error("P13.1: cuts")
	}
}

func TestPlacement(t *testing.T) {
	c := config()
	if place.Shards(c) != 3 || !slices.Equal(place.Copies(c, 0), []int{1, 2}) || !slices.Equal(place.Copies(c, 2), []int{3, 1}) || !slices.Equal(place.Keeps(c, 1), []int{0, 2}) {
		t.Error("P13.1: the example")
	}
	for workers := 1; workers <= 5; workers++ {
		for copies := 1; copies <= min(3, workers); copies++ {
			c.Workers, c.Copies = workers, copies
			c.Cuts = []api.Key{{Len: 2}, {Len: 3}, {Len: 4}, {Len: 5}, {Len: 6}}
			keeps := map[int][]int{}
			for shard := range 6 {
				var want []int
				for j := range copies {
					w := 1 + (shard+j)%workers
					want = append(want, w)
					keeps[w] = append(keeps[w], shard)
				}
				if got := place.Copies(c, shard); !slices.Equal(got, want) {
					t.Errorf("P13.1: Copies of %d with %d workers and %d copies: %v", shard, workers, copies, got)
				}
			}
			for w := -1; w < 8; w++ {
				if got := place.Keeps(c, w); !slices.Equal(got, keeps[w]) {
					t.Errorf("P13.1: Keeps of %d with %d workers and %d copies: %v", w, workers, copies, got)
				}
			}
		}
	}
}

func TestWordsAndImage(t *testing.T) {
	c := config()
	for shard, want := range [][]string{{"a", "b"}, {"ab", "abc", "zz"}, nil} {
		if got := place.Words(c, shard); !slices.Equal(got, want) {
			t.Errorf("P13.1: Words of %d = %q", shard, got)
		}
		image, wrong := place.Image(c, shard)
		expected, _ := pack.Of(want)
		if wrong != api.OK || !bytes.Equal(image, expected) {
			t.Errorf("P13.1: Image of %d = %v, %d", shard, image, wrong)
		}
	}
}

func TestWrongArguments(t *testing.T) {
	bad := config()
	bad.Net = 7
	if place.Shards(bad) != 0 || place.Copies(bad, 0) != nil || place.Keeps(bad, 1) != nil {
		t.Error("P13.1: placement of an invalid configuration")
	}
	if b, wrong := place.Image(bad, 0); b != nil || wrong != api.ErrNone {
		t.Errorf("P13.1: Image of an invalid configuration: %d", wrong)
	}
	for _, shard := range []int{-1, 3, math.MinInt, math.MaxInt} {
		b, wrong := place.Image(config(), shard)
		if place.Copies(config(), shard) != nil || len(place.Words(config(), shard)) != 0 || b != nil || wrong != api.ErrNone {
			t.Errorf("P13.1: shard %d", shard)
		}
	}
	place.Words(bad, 1)
	full := config()
	full.Words = nil
	for i := range 60 {
		full.Words = append(full.Words, "w"+strconv.Itoa(100+i))
	}
	if !place.May(full) {
		t.Error("P13.1: sixty words")
	}
}
