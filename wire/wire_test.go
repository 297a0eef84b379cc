package wire_test

import (
	"bytes"
	"testing"

	"inkhorn/code"
	"inkhorn/sum"
	"inkhorn/wire"
)

func TestSeal(t *testing.T) {
	room := []byte{1, 2, 9, 9, 9, 9, 9}
	sealed := wire.Seal(room[:2])
	if len(sealed) != 6 || uint32(sealed[2])<<24|uint32(sealed[3])<<16|uint32(sealed[4])<<8|uint32(sealed[5]) != sum.Of([]byte{1, 2}) {
		t.Errorf("the sealed bytes: %v", sealed)
	}
	if room[2] != 9 {
		t.Error("Seal wrote behind its argument")
	}
	if b, ok := wire.Sealed(sealed); !ok || !bytes.Equal(b, []byte{1, 2}) {
		t.Errorf("Sealed = %v, %v", b, ok)
	}
	sealed[1]++
	for _, b := range [][]byte{sealed, nil, {0, 0, 0}, {1}} {
		if got, ok := wire.Sealed(b); ok || got != nil {
			t.Errorf("Sealed(%v) = %v, %v", b, got, ok)
		}
	}
	if b, ok := wire.Sealed([]byte{0, 0, 0, 0}); !ok || len(b) != 0 {
		t.Errorf("Sealed of a checksum alone = %v, %v", b, ok)
	}
}

func TestReader(t *testing.T) {
	r := wire.Read(code.PutText([]byte{1, 2, 3}, "ab"))
	if r.Num(1) != 1 || r.Num(2) != 515 || r.Done() || r.Text() != "ab" || !r.Done() || r.Bad() {
		t.Error("three fields")
	}
	if r.Num(1) != 0 || !r.Bad() || r.Done() || r.Text() != "" {
		t.Error("a field that is missing")
	}
	if r := wire.Read([]byte{0, 2, 65}); r.Text() != "" || !r.Bad() || r.Num(1) != 0 {
		t.Error("a string that is cut")
	}
}
