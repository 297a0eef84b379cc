package graph_test

import (
	"math"
	"math/rand/v2"
	"slices"
	"strconv"
	"strings"
	"testing"

	"inkhorn/api"
	"inkhorn/graph"
	"inkhorn/list"
)

func build(t *testing.T, words ...string) *graph.Graph {
	t.Helper()
	g, wrong := graph.Build(words)
	if wrong != api.OK || g == nil {
		t.Fatalf("P8.1: Build(%q): %d", words, wrong)
	}
	return g
}

// draw returns a valid list of words that share many endings.
func draw(rng *rand.Rand) []string {
	var words []string
	for range rng.IntN(60) {
		w := ""
		for range 1 + rng.IntN(5) {
			w += string([]rune{0, 97, 98, 233, 1114111}[rng.IntN(5)])
		}
		words = append(words, w)
	}
	return list.Sorted(words)
}

// suffixes returns what follows a prefix in the words, as one string.
func suffixes(words []string, prefix string) string {
	out := ""
	for _, w := range words {
		if rest, ok := strings.CutPrefix(w, prefix); ok {
			out += strconv.Quote(rest) + " "
		}
	}
	return out
}

// number lists the suffix sets in the order in which the chapter numbers them.
func number(words []string, prefix string, seen []string) []string {
	set := suffixes(words, prefix)
	if slices.Contains(seen, set) {
		return seen
	}
	seen = append(seen, set)
	for _, r := range labels(words, prefix) {
		seen = number(words, prefix+string(r), seen)
	}
	return seen
}

func labels(words []string, prefix string) []rune {
	var out []rune
	for _, w := range words {
		if rest, ok := strings.CutPrefix(w, prefix); ok && rest != "" {
			out = append(out, []rune(rest)[0])
		}
	}
	slices.Sort(out)
	return slices.Compact(out)
}

func TestBuildErrors(t *testing.T) {
	var many []string
	for i := range 61 {
		many = append(many, "w"+strconv.Itoa(100+i))
	}
	for _, x := range []struct {
		words []string
		want  api.Errno
	}{{many, api.ErrFull}, {[]string{"b", ""}, api.ErrWord}, {[]string{"b", "a"}, api.ErrSort}, {[]string{"a", "a"}, api.ErrSort}} {
		if g, wrong := graph.Build(x.words); g != nil || wrong != x.want {
			t.Errorf("P8.1: Build: %v, %d, not %d", g, wrong, x.want)
		}
	}
}

func TestExample(t *testing.T) {
	g := build(t, "ab", "cb")
	if g.Nodes() != 3 || !slices.Equal(g.Edges(0), []api.Edge{{Rune: 'a', To: 1}, {Rune: 'c', To: 1}}) {
		t.Errorf("P8.1: %d nodes, edges %v", g.Nodes(), g.Edges(0))
	}
	empty := build(t)
	if empty.Nodes() != 1 || empty.Final(0) || len(empty.Edges(0)) != 0 || len(empty.Words()) != 0 || empty.Has("") {
		t.Error("P8.1: the graph of no words")
	}
}

func TestNumbering(t *testing.T) {
	rng := rand.New(rand.NewPCG(8, 1))
	for range 150 {
		words := draw(rng)
		before := slices.Clone(words)
		g := build(t, words...)
		sets := number(words, "", nil)
		if g.Nodes() != len(sets) {
			t.Fatalf("P8.2: %d nodes for %d suffix sets of %q", g.Nodes(), len(sets), words)
		}
		prefixes := map[string]bool{"": true}
		for _, w := range words {
			for at := range w {
				prefixes[w[:at]] = true
			}
			prefixes[w] = true
		}
		for p := range prefixes {
			n := slices.Index(sets, suffixes(words, p))
			if g.Final(n) != slices.Contains(words, p) {
				t.Fatalf("P8.1: Final(%d) of %q", n, words)
			}
			var want []api.Edge
			for _, r := range labels(words, p) {
				want = append(want, api.Edge{Rune: r, To: slices.Index(sets, suffixes(words, p+string(r)))})
			}
			if !slices.Equal(g.Edges(n), want) {
				t.Fatalf("P8.1: Edges(%d) of %q: %v, not %v", n, words, g.Edges(n), want)
			}
			for _, e := range want {
				if to, ok := g.Next(n, e.Rune); to != e.To || !ok {
					t.Fatalf("P8.1: Next(%d, %d) = %d, %v", n, e.Rune, to, ok)
				}
			}
		}
		if !slices.Equal(words, before) {
			t.Fatal("R4: Build changed its argument")
		}
	}
}

func TestWordsAndFrom(t *testing.T) {
	rng := rand.New(rand.NewPCG(8, 2))
	for range 300 {
		words := draw(rng)
		g := build(t, words...)
		if got := g.Words(); !slices.Equal(got, words) {
			t.Fatalf("P8.1: Words = %q, not %q", got, words)
		}
		from := []string{"", "a", "b\xff", "\xff", "zz"}
		if len(words) > 0 {
			w := words[rng.IntN(len(words))]
			from = append(from, w, w+"\x00", w[:len(w)-1])
		}
		for _, w := range from {
			at, found := list.At(words, w)
			if g.Has(w) != found {
				t.Fatalf("P8.1: Has(%q) of %q", w, words)
			}
			for _, most := range []int{math.MinInt, -1, 0, 1, 2, 60, math.MaxInt} {
				want := words[at:min(len(words), at+min(max(most, 0), 99))]
				if got := g.From(w, most); !slices.Equal(got, want) {
					t.Fatalf("P8.1: From(%q, %d) of %q = %q", w, most, words, got)
				}
			}
		}
	}
}

func TestLongWords(t *testing.T) {
	var words []string
	for i := range 60 {
		words = append(words, strconv.Itoa(100+i)+strings.Repeat("é", 9))
	}
	g := build(t, words...)
	if !slices.Equal(g.Words(), words) {
		t.Errorf("P8.1: Words = %q", g.Words())
	}
}

func TestNoSuchNode(t *testing.T) {
	g := build(t, "ab", "cb")
	for _, n := range []int{-1, 3, math.MinInt, math.MaxInt} {
		to, ok := g.Next(n, 'a')
		if g.Final(n) || len(g.Edges(n)) != 0 || to != 0 || ok {
			t.Errorf("P8.1: node %d", n)
		}
	}
	if to, ok := g.Next(0, 'b'); to != 0 || ok {
		t.Errorf("P8.1: Next(0, b) = %d, %v", to, ok)
	}
	for _, w := range []string{"a", "abb", "xab", "abab", "ab\xffab", "\xff", "a\xff", "\ufffd", ""} {
		if g.Has(w) {
			t.Errorf("P8.1: Has(%q)", w)
		}
	}
}

func TestFreshResults(t *testing.T) {
	words := []string{"ab", "cb"}
	g := build(t, words...)
	g.Edges(0)[0] = api.Edge{}
	g.Words()[0] = "x"
	words[0] = "x"
	if !slices.Equal(g.Words(), []string{"ab", "cb"}) || g.Edges(0)[0].Rune != 'a' {
		t.Error("R4: the graph was changed from outside")
	}
}

func TestNil(t *testing.T) {
	var g *graph.Graph
	to, ok := g.Next(0, 'a')
	if g.Nodes() != 0 || g.Final(0) || g.Edges(0) != nil || to != 0 || ok || g.Has("") || g.Words() != nil || g.From("", 5) != nil {
		t.Error("R3: a nil graph")
	}
}
