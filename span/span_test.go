package span_test

import (
	"testing"

	"inkhorn/span"
)

func TestIn(t *testing.T) {
	for n, want := range map[int]bool{1: false, 2: true, 3: true, 4: true, 5: false} {
		if span.In(n, 2, 4) != want {
			t.Errorf("In(%d, 2, 4)", n)
		}
	}
	if span.In(2, 3, 1) || !span.In(3, 3, 3) {
		t.Error("a range of nothing, or of one number")
	}
}
