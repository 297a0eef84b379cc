package lines_test

import (
	"slices"
	"testing"

	"inkhorn/lines"
)

func TestSplit(t *testing.T) {
	for s, want := range map[string][]string{
		"": nil, "\n": {""}, "a": {"a"}, "a\n": {"a"}, "a\n\n": {"a", ""}, "\na": {"", "a"}, "a\nb": {"a", "b"}, "a\r\nb\n": {"a\r", "b"},
	} {
		if got := lines.Split(s); !slices.Equal(got, want) {
			t.Errorf("Split(%q) = %q", s, got)
		}
	}
}
