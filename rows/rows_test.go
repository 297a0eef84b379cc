package rows_test

import (
	"slices"
	"testing"

	"inkhorn/rows"
)

func TestRows(t *testing.T) {
	row := rows.First(3)
	if !slices.Equal(row, []int{0, 1, 2, 3}) || !slices.Equal(rows.First(0), []int{0}) {
		t.Errorf("First: %v", row)
	}
	for _, x := range []struct {
		r    rune
		want []int
	}{{'b', []int{1, 1, 1, 2}}, {'c', []int{2, 2, 2, 1}}, {'x', []int{3, 3, 3, 2}}} {
		rows.Advance(row, []rune("abc"), x.r)
		if !slices.Equal(row, x.want) {
			t.Errorf("Advance by %c: %v, not %v", x.r, row, x.want)
		}
	}
}
