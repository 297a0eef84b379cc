package sum_test

import (
	"bytes"
	"hash/crc32"
	"math/rand/v2"
	"testing"

	"inkhorn/sum"
)

func draw(rng *rand.Rand, n int) []byte {
	b := make([]byte, n)
	for i := range b {
		b[i] = byte(rng.IntN(256))
	}
	return b
}

func TestOf(t *testing.T) {
	for s, want := range map[string]uint32{"": 0, "123456789": 0xCBF43926, "a": 0xE8B7BE43, "\x00": 0xD202EF8D, "\xff\xff\xff\xff": 0xFFFFFFFF} {
		if got := sum.Of([]byte(s)); got != want {
			t.Errorf("P2.1: Of(%q) = %X", s, got)
		}
	}
	if sum.Of(nil) != 0 {
		t.Error("P2.1: Of(nil)")
	}
	rng := rand.New(rand.NewPCG(2, 1))
	for n := range 300 {
		b := draw(rng, n)
		before := bytes.Clone(b)
		if got := sum.Of(b); got != crc32.ChecksumIEEE(b) {
			t.Fatalf("P2.1: Of(%v) = %X", b, got)
		}
		if !bytes.Equal(b, before) {
			t.Fatal("R4: Of changed its argument")
		}
	}
}

func TestAdd(t *testing.T) {
	rng := rand.New(rand.NewPCG(2, 2))
	for range 500 {
		b := draw(rng, rng.IntN(40))
		cut := rng.IntN(len(b) + 1)
		if got := sum.Add(sum.Of(b[:cut]), b[cut:]); got != sum.Of(b) {
			t.Fatalf("P2.1: Add of %v cut at %d: %X", b, cut, got)
		}
	}
	if sum.Add(12345, nil) != 12345 {
		t.Error("P2.1: Add of no bytes")
	}
}

func TestDetects(t *testing.T) {
	rng := rand.New(rand.NewPCG(2, 3))
	for range 3000 {
		b := draw(rng, 1+rng.IntN(60))
		other := bytes.Clone(b)
		run := 1 + rng.IntN(min(4, len(b)))
		at := rng.IntN(len(b) - run + 1)
		for i := range run {
			other[at+i] = byte(rng.IntN(256))
		}
		if !bytes.Equal(b, other) && sum.Of(b) == sum.Of(other) {
			t.Fatalf("P2.2: %v and %v", b, other)
		}
	}
	b := draw(rng, 20)
	for i := range b {
		for x := 1; x < 256; x++ {
			other := bytes.Clone(b)
			other[i] ^= byte(x)
			if sum.Of(b) == sum.Of(other) {
				t.Fatalf("P2.2: byte %d of %v by %d", i, b, x)
			}
		}
	}
}
