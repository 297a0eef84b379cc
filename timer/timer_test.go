package timer_test

import (
	"cmp"
	"maps"
	"math"
	"math/rand/v2"
	"slices"
	"testing"

	"inkhorn/api"
	"inkhorn/timer"
)

func open(t *testing.T, most int) *timer.Timers {
	t.Helper()
	ts, wrong := timer.New(most)
	if ts == nil || wrong != api.OK || ts.Len() != 0 || len(ts.Due(math.MaxInt)) != 0 {
		t.Fatalf("P17.1: New(%d): %d", most, wrong)
	}
	return ts
}

func TestNew(t *testing.T) {
	open(t, 1)
	open(t, 24)
	for _, most := range []int{0, -1, 25, math.MinInt, math.MaxInt} {
		if ts, wrong := timer.New(most); ts != nil || wrong != api.ErrArg {
			t.Errorf("P17.1: New(%d): %d", most, wrong)
		}
	}
}

func TestExample(t *testing.T) {
	ts := open(t, 3)
	if ts.Set(3, 9) != api.OK || ts.Set(1, 5) != api.OK || !slices.Equal(ts.Due(5), []int{1}) || !slices.Equal(ts.Due(9), []int{1, 3}) {
		t.Error("P17.1: the example")
	}
	if ts.Len() != 2 || len(ts.Due(4)) != 0 {
		t.Error("P17.1: Due removes timers")
	}
}

func TestErrors(t *testing.T) {
	ts := open(t, 2)
	for _, x := range [][2]int{{-1, 0}, {math.MinInt, 5}, {0, -1}, {0, api.MaxTime + 1}, {0, math.MinInt}} {
		if wrong := ts.Set(x[0], x[1]); wrong != api.ErrArg || ts.Len() != 0 {
			t.Errorf("P17.1: Set(%d, %d): %d", x[0], x[1], wrong)
		}
	}
	if ts.Set(0, 0) != api.OK || ts.Set(math.MaxInt, api.MaxTime) != api.OK {
		t.Error("P17.1: Set at the limits")
	}
	if ts.Set(5, 5) != api.ErrFull || ts.Set(-1, 5) != api.ErrArg || ts.Set(5, -1) != api.ErrArg || ts.Len() != 2 {
		t.Error("P17.1: Set of a third timer")
	}
	if ts.Set(0, 7) != api.OK || ts.Len() != 2 {
		t.Error("P17.1: Set of a timer that there is")
	}
	if at, ok := ts.At(0); at != 7 || !ok {
		t.Errorf("P17.1: At: %d, %v", at, ok)
	}
	if at, ok := ts.At(5); at != 0 || ok || ts.Cancel(5) || ts.Cancel(-1) {
		t.Errorf("P17.1: a timer that there is not: %d, %v", at, ok)
	}
	if !ts.Cancel(0) || ts.Cancel(0) || ts.Len() != 1 || ts.Set(5, 5) != api.OK {
		t.Error("P17.1: Cancel")
	}
}

func TestAgainstMap(t *testing.T) {
	rng := rand.New(rand.NewPCG(17, 1))
	for range 50 {
		most := 1 + rng.IntN(24)
		ts, model := open(t, most), map[int]int{}
		for range 300 {
			id, at := rng.IntN(30), rng.IntN(12)
			_, is := model[id]
			switch rng.IntN(4) {
			case 0:
				if ts.Cancel(id) != is {
					t.Fatalf("P17.1: Cancel(%d)", id)
				}
				delete(model, id)
			default:
				want := api.OK
				if !is && len(model) == most {
					want = api.ErrFull
				} else {
					model[id] = at
				}
				if got := ts.Set(id, at); got != want {
					t.Fatalf("P17.1: Set(%d, %d) = %d, not %d", id, at, got, want)
				}
			}
			got, ok := ts.At(id)
			if want, is := model[id]; got != want || ok != is || ts.Len() != len(model) {
				t.Fatalf("P17.1: At(%d) = %d, %v", id, got, ok)
			}
			now := rng.IntN(14) - 1
			due := slices.SortedFunc(maps.Keys(model), func(a, b int) int {
				return cmp.Or(cmp.Compare(model[a], model[b]), cmp.Compare(a, b))
			})
			due = slices.DeleteFunc(due, func(x int) bool { return model[x] > now })
			if got := ts.Due(now); !slices.Equal(got, due) {
				t.Fatalf("P17.1: Due(%d) = %v, not %v", now, got, due)
			}
		}
	}
}

func TestNil(t *testing.T) {
	var ts *timer.Timers
	at, ok := ts.At(0)
	if ts.Set(0, 0) != api.ErrNil || ts.Cancel(0) || at != 0 || ok || ts.Due(9) != nil || ts.Len() != 0 {
		t.Error("R3: nil timers")
	}
}
