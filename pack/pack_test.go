package pack_test

import (
	"bytes"
	"math/rand/v2"
	"slices"
	"strconv"
	"strings"
	"testing"

	"inkhorn/api"
	"inkhorn/graph"
	"inkhorn/list"
	"inkhorn/pack"
	"inkhorn/sum"
)

// sealed returns the bytes of an image that has the right checksum, whatever else is wrong with it.
func sealed(b ...byte) []byte {
	c := sum.Of(b)
	return append(b, byte(c>>24), byte(c>>16), byte(c>>8), byte(c))
}

func imageOf(t *testing.T, words ...string) []byte {
	t.Helper()
	b, wrong := pack.Of(words)
	if wrong != api.OK {
		t.Fatalf("P9.1: Of(%q): %d", words, wrong)
	}
	return b
}

func TestImage(t *testing.T) {
	empty := imageOf(t)
	if len(empty) != 13 || !bytes.Equal(empty, sealed(73, 78, 75, 49, 0, 1, 0, 0, 0)) {
		t.Errorf("P9.1: the image of no words: %v", empty)
	}
	want := sealed(73, 78, 75, 49, 0, 3,
		0, 0, 2, 0, 0, 0, 97, 0, 1, 0, 1, 0xf6, 0x00, 0, 1,
		0, 0, 1, 0, 0, 0, 98, 0, 2,
		1, 0, 0)
	if got := imageOf(t, "ab", "\U0001f600b"); !bytes.Equal(got, want) {
		t.Errorf("P9.1: the image of two words: %v, not %v", got, want)
	}
}

func TestErrors(t *testing.T) {
	if b, wrong := pack.Encode(nil); b != nil || wrong != api.ErrArg {
		t.Errorf("P9.1: Encode(nil) = %v, %d", b, wrong)
	}
	var many []string
	for i := range 61 {
		many = append(many, strconv.Itoa(100+i))
	}
	for _, x := range []struct {
		words []string
		want  api.Errno
	}{{many, api.ErrFull}, {[]string{""}, api.ErrWord}, {[]string{"b", "a"}, api.ErrSort}} {
		if b, wrong := pack.Of(x.words); b != nil || wrong != x.want {
			t.Errorf("P9.1: Of = %v, %d, not %d", b, wrong, x.want)
		}
	}
	for _, b := range [][]byte{nil, {}, {0, 0, 0}, {1, 0, 0, 0, 0}, {73, 78, 75, 49, 0, 1, 0, 0, 0, 1, 2, 3, 4}} {
		if g, wrong := pack.Decode(b); g != nil || wrong != api.ErrSum {
			t.Errorf("P9.1: Decode(%v) = %v, %d", b, g, wrong)
		}
	}
}

func TestForms(t *testing.T) {
	head := []byte{73, 78, 75, 49}
	of := func(rest ...byte) []byte { return sealed(append(slices.Clone(head), rest...)...) }
	circle := []byte{0, 1, 1, 0, 2, 0, 0, 0, 97, 0, 0, 0, 0, 0, 98, 0, 0}
	for name, b := range map[string][]byte{
		"nothing":                  sealed(),
		"another head":             sealed(73, 78, 75, 50, 0, 1, 0, 0, 0),
		"no nodes":                 of(0, 0),
		"a flag of 2":              of(0, 1, 2, 0, 0),
		"the empty word":           of(0, 1, 1, 0, 0),
		"a byte too many":          of(0, 1, 0, 0, 0, 0),
		"a byte too few":           of(0, 1, 0, 0),
		"a node too few":           of(0, 2, 0, 0, 0),
		"an edge to nowhere":       of(0, 1, 0, 0, 1, 0, 0, 0, 97, 0, 1),
		"a circle":                 of(circle...),
		"a dead end":               of(0, 2, 0, 0, 1, 0, 0, 0, 97, 0, 1, 0, 0, 0),
		"a node out of reach":      of(0, 2, 0, 0, 0, 1, 0, 0),
		"edges not rising":         of(0, 2, 0, 0, 2, 0, 0, 0, 98, 0, 1, 0, 0, 0, 97, 0, 1, 1, 0, 0),
		"the same edge twice":      of(0, 2, 0, 0, 2, 0, 0, 0, 97, 0, 1, 0, 0, 0, 97, 0, 1, 1, 0, 0),
		"no rune":                  of(0, 2, 0, 0, 1, 0, 0, 0xd8, 0, 0, 1, 1, 0, 0),
		"a rune of all bits":       of(0, 2, 0, 0, 1, 255, 255, 255, 255, 0, 1, 1, 0, 0),
		"the replacement":          of(0, 2, 0, 0, 1, 0, 0, 0xff, 0xfd, 0, 1, 1, 0, 0),
		"more nodes than needed":   of(0, 3, 0, 0, 2, 0, 0, 0, 97, 0, 1, 0, 0, 0, 98, 0, 2, 1, 0, 0, 1, 0, 0),
		"nodes in another order":   of(0, 3, 0, 0, 1, 0, 0, 0, 97, 0, 2, 1, 0, 0, 0, 0, 1, 0, 0, 0, 98, 0, 1),
		"edges by the ten million": of(append([]byte{255, 255, 0, 255, 255}, bytes.Repeat([]byte{0, 0, 0, 97, 0, 0}, 65535)...)...),
	} {
		if g, wrong := pack.Decode(b); g != nil || wrong != api.ErrForm {
			t.Errorf("P9.1: %s: %v, %d", name, g, wrong)
		}
	}
}

// TestManyPaths has no words at all, but more paths than could ever be followed.
func TestManyPaths(t *testing.T) {
	b := []byte{73, 78, 75, 49, 0, 60}
	for n := range 60 {
		b = append(b, 0, 0, 2)
		to := byte(min(n+1, 59))
		b = append(b, 0, 0, 0, 97, 0, to, 0, 0, 0, 98, 0, to)
	}
	if g, wrong := pack.Decode(sealed(b...)); g != nil || wrong != api.ErrForm {
		t.Errorf("P9.1: Decode = %v, %d", g, wrong)
	}
}

func TestRoundTrip(t *testing.T) {
	rng := rand.New(rand.NewPCG(9, 1))
	for range 200 {
		var drawn []string
		for range rng.IntN(80) {
			w := ""
			for range 1 + rng.IntN(12) {
				w += string([]rune{0, 97, 233, 1114111}[rng.IntN(4)])
			}
			drawn = append(drawn, w)
		}
		words := list.Sorted(drawn)
		words = words[:min(len(words), 60)]
		b := imageOf(t, words...)
		before := bytes.Clone(b)
		g, wrong := pack.Decode(b)
		if wrong != api.OK || !slices.Equal(g.Words(), words) {
			t.Fatalf("P9.2: %q became %d", words, wrong)
		}
		again, wrong := pack.Encode(g)
		if wrong != api.OK || !bytes.Equal(again, before) || !bytes.Equal(b, before) {
			t.Fatalf("P9.2: the image of %q", words)
		}
		made, _ := graph.Build(words)
		if made.Nodes() != g.Nodes() {
			t.Fatalf("P9.2: %d nodes became %d", made.Nodes(), g.Nodes())
		}
	}
}

// TestMostPrefixes has as many beginnings of words as there can be.
func TestMostPrefixes(t *testing.T) {
	var words []string
	for i := range 60 {
		words = append(words, string(rune('A'+i))+strings.Repeat("x", 11))
	}
	if g, wrong := pack.Decode(imageOf(t, words...)); wrong != api.OK || !slices.Equal(g.Words(), words) {
		t.Errorf("P9.2: the image of sixty long words: %d", wrong)
	}
}

func TestChangedByte(t *testing.T) {
	b := imageOf(t, "ab", "abc", "cb", "日")
	for i := range b {
		for x := 1; x < 256; x++ {
			changed := bytes.Clone(b)
			changed[i] ^= byte(x)
			if g, wrong := pack.Decode(changed); g != nil || wrong != api.ErrSum {
				t.Fatalf("P9.2: byte %d by %d: %v, %d", i, x, g, wrong)
			}
		}
	}
}
