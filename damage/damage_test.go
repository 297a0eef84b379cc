package damage_test

import (
	"bytes"
	"math"
	"testing"

	"inkhorn/damage"
)

func TestChange(t *testing.T) {
	b := []byte{1, 2, 3}
	for _, x := range []struct {
		at, x int
		want  []byte
	}{
		{0, 0, []byte{0, 2, 3}}, {4, 1, []byte{1, 0, 3}}, {2, 254, []byte{1, 2, 252}}, {2, 255, []byte{1, 2, 2}},
		// 2^64 - 1 is a multiple of 3 and of 255.
		{-1, -1, []byte{0, 2, 3}}, {math.MinInt, math.MinInt, []byte{1, 2, 130}},
	} {
		if got := damage.Change(b, x.at, x.x); !bytes.Equal(got, x.want) {
			t.Errorf("Change(%d, %d) = %v", x.at, x.x, got)
		}
	}
	if !bytes.Equal(b, []byte{1, 2, 3}) || damage.Change(nil, 1, 1) != nil {
		t.Error("the argument was changed")
	}
}
