package code_test

import (
	"bytes"
	"math"
	"strings"
	"testing"

	"inkhorn/code"
)

func TestPut(t *testing.T) {
	for _, x := range []struct {
		b    []byte
		n    int
		size int
		want []byte
	}{
		{nil, 258, 2, []byte{1, 2}},
		{[]byte{9}, 258, 1, []byte{9, 2}},
		{[]byte{9}, 258, 0, []byte{9}},
		{[]byte{9}, 258, -1, []byte{9}},
		{[]byte{9}, 258, math.MinInt, []byte{9}},
		{nil, 1, 4, []byte{0, 0, 0, 1}},
		{nil, -1, 3, []byte{255, 255, 255}},
		{nil, -2, 8, []byte{255, 255, 255, 255, 255, 255, 255, 254}},
		{nil, 1, 9, []byte{0, 0, 0, 0, 0, 0, 0, 1}},
		{nil, math.MinInt, math.MaxInt, []byte{128, 0, 0, 0, 0, 0, 0, 0}},
	} {
		if got := code.Put(x.b, x.n, x.size); !bytes.Equal(got, x.want) {
			t.Errorf("P3.1: Put(%v, %d, %d) = %v", x.b, x.n, x.size, got)
		}
	}
}

func TestNum(t *testing.T) {
	b := []byte{1, 2, 3, 255, 255, 255, 255, 255, 255, 255, 254}
	for _, x := range []struct {
		at, size, want int
		ok             bool
	}{
		{1, 2, 515, true}, {0, 1, 1, true}, {0, 3, 66051, true}, {10, 1, 254, true}, {3, 8, -2, true},
		{11, 1, 0, false}, {10, 2, 0, false}, {4, 8, 0, false}, {-1, 1, 0, false}, {0, 0, 0, false}, {0, -1, 0, false}, {0, 9, 0, false},
		{math.MaxInt, 1, 0, false}, {math.MinInt, 8, 0, false}, {0, math.MaxInt, 0, false}, {math.MaxInt, 8, 0, false},
	} {
		if n, ok := code.Num(b, x.at, x.size); n != x.want || ok != x.ok {
			t.Errorf("P3.1: Num(%d, %d) = %d, %v", x.at, x.size, n, ok)
		}
	}
	if n, ok := code.Num(nil, 0, 1); n != 0 || ok {
		t.Errorf("P3.1: Num of no bytes = %d, %v", n, ok)
	}
}

func TestPutText(t *testing.T) {
	if got := code.PutText(nil, "a"); !bytes.Equal(got, []byte{0, 1, 97}) {
		t.Errorf("P3.1: PutText(a) = %v", got)
	}
	if got := code.PutText([]byte{7}, "\xff\x00"); !bytes.Equal(got, []byte{7, 0, 2, 255, 0}) {
		t.Errorf("P3.1: PutText = %v", got)
	}
	for _, n := range []int{65535, 65536, 70000} {
		got := code.PutText(nil, strings.Repeat("x", n))
		if len(got) != 2+65535 || got[0] != 255 || got[1] != 255 {
			t.Errorf("P3.1: PutText of %d bytes: %d", n, len(got))
		}
	}
}

func TestText(t *testing.T) {
	b := []byte{0, 1, 97, 0, 0, 0, 2, 98}
	for _, x := range []struct {
		at   int
		want string
		next int
		ok   bool
	}{
		{0, "a", 3, true}, {3, "", 5, true}, {5, "", 0, false}, {6, "", 0, false}, {7, "", 0, false}, {8, "", 0, false},
		{-1, "", 0, false}, {math.MaxInt, "", 0, false}, {math.MinInt, "", 0, false},
	} {
		if s, next, ok := code.Text(b, x.at); s != x.want || next != x.next || ok != x.ok {
			t.Errorf("P3.1: Text at %d = %q, %d, %v", x.at, s, next, ok)
		}
	}
}

func TestArgumentsStay(t *testing.T) {
	room := []byte{1, 2, 3, 4}
	for range 2 {
		out := code.Put(room[:1], 77, 2)
		text := code.PutText(room[:1], "zz")
		same := code.Put(room, 1, 0)
		out[0], text[0], same[0] = 99, 99, 99
		if !bytes.Equal(room, []byte{1, 2, 3, 4}) {
			t.Fatalf("R4: the argument became %v", room)
		}
	}
}

func TestRoundTrip(t *testing.T) {
	for size := 1; size <= 8; size++ {
		for _, n := range []int{0, 1, 127, 128, 255, 256, 65535, 1 << 20, 1<<31 - 1, 1 << 40, math.MaxInt} {
			if size < 8 && n >= 1<<(8*size) {
				continue
			}
			if got, ok := code.Num(code.Put([]byte{5}, n, size), 1, size); got != n || !ok {
				t.Errorf("P3.2: %d in %d bytes became %d", n, size, got)
			}
		}
	}
	for _, n := range []int{-1, math.MinInt} {
		if got, ok := code.Num(code.Put(nil, n, 8), 0, 8); got != n || !ok {
			t.Errorf("P3.2: %d became %d", n, got)
		}
	}
	for _, s := range []string{"", "a", "é日", "\xff\n", strings.Repeat("y", 65535)} {
		b := code.PutText([]byte{5, 6}, s)
		if got, next, ok := code.Text(b, 2); got != s || next != len(b) || !ok {
			t.Errorf("P3.2: a string of %d bytes became one of %d", len(s), len(got))
		}
	}
}
