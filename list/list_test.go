package list_test

import (
	"math/rand/v2"
	"slices"
	"strconv"
	"strings"
	"testing"

	"inkhorn/api"
	"inkhorn/list"
	"inkhorn/text"
)

// numbered returns n words in order.
func numbered(n int) []string {
	var out []string
	for i := range n {
		out = append(out, "w"+strconv.Itoa(10000+i))
	}
	return out
}

func TestGood(t *testing.T) {
	full := numbered(60)
	swapped := numbered(61)
	swapped[0], swapped[1] = "", "\xff"
	for _, x := range []struct {
		words []string
		want  api.Errno
	}{
		{nil, api.OK}, {[]string{"a"}, api.OK}, {full, api.OK}, {[]string{"z", "é", "\U0010ffff"}, api.OK},
		{numbered(61), api.ErrFull}, {swapped, api.ErrFull},
		{[]string{""}, api.ErrWord}, {[]string{"b", "a", "\xff"}, api.ErrWord}, {[]string{"a", strings.Repeat("b", 13)}, api.ErrWord}, {[]string{"b", "a", ""}, api.ErrWord},
		{[]string{"b", "a"}, api.ErrSort}, {[]string{"a", "a"}, api.ErrSort}, {[]string{"a", "é", "z"}, api.ErrSort}, {[]string{"a", "c", "b"}, api.ErrSort},
	} {
		if got := list.Good(x.words); got != x.want {
			t.Errorf("P4.1: Good(%q) = %d", x.words, got)
		}
	}
}

func TestSorted(t *testing.T) {
	given := []string{"b", "", "a", "b", "\xff", "é", "z", strings.Repeat("c", 13), "a"}
	before := slices.Clone(given)
	if got := list.Sorted(given); !slices.Equal(got, []string{"a", "b", "z", "é"}) {
		t.Errorf("P4.1: Sorted = %q", got)
	}
	if !slices.Equal(given, before) {
		t.Error("R4: Sorted changed its argument")
	}
	if got := list.Sorted(nil); len(got) != 0 {
		t.Errorf("P4.1: Sorted(nil) = %q", got)
	}
	many := append(numbered(1000), "a", "zz")
	slices.Reverse(many[:1000])
	if got := list.Sorted(many); !slices.Equal(got, numbered(1000)) {
		t.Errorf("P4.1: Sorted of 1002 = %d words, first %q", len(got), got[0])
	}
	if got := list.Sorted(append(make([]string, 999), "a", "b")); !slices.Equal(got, []string{"a"}) {
		t.Errorf("P4.1: Sorted after 999 empty strings = %q", got)
	}
}

func TestAt(t *testing.T) {
	words := []string{"a", "c", "cc", "é"}
	for w, want := range map[string]int{"": 0, "a": 0, "b": 1, "c": 1, "ca": 2, "cc": 2, "d": 3, "é": 3, "\xff": 4} {
		n, found := list.At(words, w)
		if n != want || found != slices.Contains(words, w) {
			t.Errorf("P4.1: At(%q) = %d, %v", w, n, found)
		}
	}
	if n, found := list.At(nil, "a"); n != 0 || found {
		t.Errorf("P4.1: At of no words = %d, %v", n, found)
	}
}

func TestMergeAndWithout(t *testing.T) {
	rng := rand.New(rand.NewPCG(4, 1))
	draw := func() []string {
		var out []string
		for range rng.IntN(8) {
			out = append(out, string([]byte{byte('a' + rng.IntN(6)), byte(250 + rng.IntN(3))}))
		}
		slices.SortFunc(out, text.Compare)
		return slices.Compact(out)
	}
	for range 1000 {
		a, b := draw(), draw()
		beforeA, beforeB := slices.Clone(a), slices.Clone(b)
		both := append(slices.Clone(a), b...)
		slices.SortFunc(both, text.Compare)
		if got := list.Merge(a, b); !slices.Equal(got, slices.Compact(both)) {
			t.Fatalf("P4.1: Merge(%q, %q) = %q", a, b, got)
		}
		rest := slices.DeleteFunc(slices.Clone(a), func(w string) bool { return slices.Contains(b, w) })
		if got := list.Without(a, b); !slices.Equal(got, rest) {
			t.Fatalf("P4.1: Without(%q, %q) = %q", a, b, got)
		}
		if !slices.Equal(a, beforeA) || !slices.Equal(b, beforeB) {
			t.Fatal("R4: an argument was changed")
		}
	}
}

func TestResultsAreFresh(t *testing.T) {
	a := make([]string, 2, 8)
	a[0], a[1] = "a", "c"
	list.Merge(a, nil)[0] = "x"
	list.Merge(nil, a)[0] = "x"
	list.Merge(a, []string{"z"})
	list.Without(a, nil)[0] = "x"
	list.Sorted(a)[0] = "x"
	if !slices.Equal(a[:3], []string{"a", "c", ""}) {
		t.Errorf("R4: the argument became %q", a[:3])
	}
}

func TestUnsortedEnds(t *testing.T) {
	odd := []string{"b", "a", "", "b", "\xff"}
	list.At(odd, "a")
	list.Merge(odd, odd)
	list.Without(odd, odd)
}
