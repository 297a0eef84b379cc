package fair_test

import (
	"math"
	"reflect"
	"slices"
	"testing"

	"inkhorn/api"
	"inkhorn/fair"
)

// config has three shards, kept by workers 1 2, 2 3 and 3 1.
func config() api.Config {
	return api.Config{
		Words: []string{"a", "ab", "abc"}, Cuts: []api.Key{{Len: 2}, {Len: 3}},
		Workers: 3, Copies: 2, Slots: 2, Batch: 3, Lease: 20, Hedge: 5, First: 2, Cap: 8, Jitter: 1, Net: 32,
	}
}

func TestBound(t *testing.T) {
	one := config()
	one.Slots, one.Copies, one.First, one.Cap, one.Jitter, one.Cuts = 1, 1, 1, 3, 0, nil
	if got := fair.Bound(one, 1); got != 28 {
		t.Errorf("P27.1: Bound of the example = %d", got)
	}
	for n := 1; n <= 10; n++ {
		if got, want := fair.Bound(config(), n), 4+(n+1)*(2*(8+1+2)+2*3+6); got != want {
			t.Errorf("P27.1: Bound(%d) = %d, not %d", n, got, want)
		}
	}
	for _, n := range []int{0, 11, -1, math.MinInt, math.MaxInt} {
		if got := fair.Bound(config(), n); got != 0 {
			t.Errorf("P27.1: Bound(%d) = %d", n, got)
		}
	}
	bad := config()
	bad.Hedge = 0
	if got := fair.Bound(bad, 1); got != 0 {
		t.Errorf("P27.1: Bound of an invalid configuration = %d", got)
	}
}

func TestGood(t *testing.T) {
	for _, good := range [][]int{{1, 2, 3}, {2, 3, 1}, {1, 3, 3}, {2, 2, 1}} {
		if !fair.Good(config(), good) {
			t.Errorf("P27.1: Good(%v)", good)
		}
	}
	for _, good := range [][]int{nil, {1, 2}, {1, 2, 3, 1}, {3, 2, 3}, {1, 1, 3}, {1, 2, 2}, {0, 2, 3}, {1, 2, 4}, {1, -1, 3}} {
		if fair.Good(config(), good) {
			t.Errorf("P27.1: Good(%v)", good)
		}
	}
	bad := config()
	bad.Net = 0
	if fair.Good(bad, []int{1, 2, 3}) || fair.Good(api.Config{}, nil) {
		t.Error("P27.1: Good of an invalid configuration")
	}
}

func wake(node int) api.Rec {
	return api.Rec{Event: api.Event{Kind: api.EvWake, Node: node}, Got: -1}
}

func of(kind int, node int) api.Rec {
	return api.Rec{Event: api.Event{Kind: kind, Node: node}, Got: -1}
}

// plain are the records of a window in which nothing else happens; 1 and 2 are the good workers of the tests.
func plain() []api.Rec {
	return []api.Rec{wake(0), wake(3), of(api.EvTick, 0), wake(2), wake(1), wake(1)}
}

var good = []int{1, 2, 1}

func TestWindow(t *testing.T) {
	if !fair.Window(config(), plain(), 0, 6, good) || !fair.Window(config(), plain(), 0, 5, good) {
		t.Error("P27.2: a fair window")
	}
	for _, x := range [][2]int{{0, 0}, {0, -1}, {-1, 5}, {0, 7}, {1, 6}, {6, 1}, {7, 1}, {math.MinInt, 5}, {math.MaxInt, math.MaxInt}, {0, math.MaxInt}, {1, math.MaxInt}, {math.MaxInt, 1}, {0, math.MinInt}} {
		if fair.Window(config(), plain(), x[0], x[1], good) {
			t.Errorf("P27.2: Window from %d by %d", x[0], x[1])
		}
	}
	for i := range 5 {
		recs := plain()[:5]
		recs[i] = of(api.EvDrop, 1)
		if fair.Window(config(), recs, 0, 5, good) {
			t.Errorf("P27.2: without record %d", i)
		}
	}
	if fair.Window(config(), plain(), 0, 6, []int{3, 2, 1}) || fair.Window(api.Config{}, plain(), 0, 6, nil) {
		t.Error("P27.2: without good copies")
	}
	odd := append(plain(), wake(-1), wake(99), wake(math.MinInt), wake(5))
	if !fair.Window(config(), odd, 0, 10, good) {
		t.Error("P27.2: wakes of no nodes")
	}
}

func TestCrashes(t *testing.T) {
	for node, want := range map[int]bool{0: true, 1: false, 2: false, 3: true, 4: true} {
		recs := append(plain(), of(api.EvCrash, node))
		if fair.Window(config(), recs, 0, 7, good) != want || !fair.Window(config(), recs, 0, 6, good) {
			t.Errorf("P27.2: a crash of %d", node)
		}
	}
}

func TestLosses(t *testing.T) {
	for _, x := range []struct {
		from, to int
		want     bool
	}{{0, 1, false}, {1, 0, false}, {0, 2, false}, {2, 0, false}, {0, 3, true}, {3, 0, true}, {1, 2, true}, {0, 0, true}} {
		sent := api.Rec{Got: -1, Sent: []api.Sent{{ID: 8, From: 3, To: 0}, {ID: 9, From: x.from, To: x.to}}}
		lost := api.Rec{Got: -1, Lost: []int{8, 9}}
		for _, recs := range [][]api.Rec{append(append([]api.Rec{sent}, plain()...), lost), append(append([]api.Rec{of(0, 0)}, plain()...), lost, sent)} {
			if fair.Window(config(), recs, 1, 7, good) != x.want {
				t.Errorf("P27.2: a datagram from %d to %d is lost", x.from, x.to)
			}
			if !fair.Window(config(), recs, 1, 6, good) {
				t.Errorf("P27.2: a datagram is lost outside of the window")
			}
		}
	}
}

// stretch returns windows of seven records each; the last one of each is the caller's.
func stretch(last ...api.Rec) []api.Rec {
	var recs []api.Rec
	for _, rec := range last {
		recs = append(append(recs, plain()...), rec)
	}
	return recs
}

func TestFair(t *testing.T) {
	quiet := of(api.EvTick, 0)
	sent := func(from int, to int) api.Rec {
		return api.Rec{Got: -1, Sent: []api.Sent{{ID: 5, From: from, To: to}}}
	}
	got := api.Rec{Got: 5}
	for name, x := range map[string]struct {
		recs []api.Rec
		want bool
	}{
		"nothing is sent":                 {stretch(quiet, quiet, quiet), true},
		"received in the next window":     {stretch(sent(0, 1), got, quiet), true},
		"received in the window after":    {stretch(sent(0, 1), quiet, got), false},
		"never received":                  {stretch(quiet, sent(2, 0), quiet), false},
		"never received from a bad one":   {stretch(sent(3, 0), sent(0, 3), sent(1, 2)), true},
		"sent in the last window":         {stretch(quiet, quiet, sent(0, 1)), true},
		"received before":                 {stretch(got, sent(0, 1), quiet), false},
		"received at the end of the next": {stretch(quiet, sent(0, 2), got), true},
		"a crash in the last window":      {stretch(quiet, quiet, of(api.EvCrash, 1)), false},
	} {
		if fair.Fair(config(), x.recs, 0, 7, 3, good) != x.want {
			t.Errorf("P27.2: %s", name)
		}
		moved := append([]api.Rec{of(api.EvCrash, 1), of(api.EvCrash, 2)}, x.recs...)
		if fair.Fair(config(), moved, 2, 7, 3, good) != x.want {
			t.Errorf("P27.2: %s, from 2 on", name)
		}
	}
	within := stretch(quiet, quiet)
	within[0].Sent = []api.Sent{{ID: 0, From: 1, To: 0}}
	within[3].Got = 0
	if !fair.Fair(config(), within, 0, 7, 2, good) {
		t.Error("P27.2: received in the same window")
	}
	within[3].Got, within[0].Sent[0].ID = -1, -1
	if fair.Fair(config(), within, 0, 7, 2, good) {
		t.Error("P27.2: a Got of -1 says that nothing was received")
	}
}

func TestFairArguments(t *testing.T) {
	recs := stretch(of(0, 0), of(0, 0))
	before := stretch(of(0, 0), of(0, 0))
	if !fair.Fair(config(), recs, 0, 7, 1, good) || !fair.Fair(config(), recs, 7, 7, 1, good) || !fair.Fair(config(), recs, 0, 7, 2, good) {
		t.Error("P27.2: one window, and two")
	}
	for _, x := range [][3]int{{0, 7, 0}, {0, 7, -1}, {0, 7, 3}, {7, 7, 2}, {0, 7, 10001}, {-1, 7, 1}, {0, 0, 1}, {0, -7, 2}, {0, math.MaxInt, 2}, {math.MaxInt, 7, 2}, {0, 7, math.MaxInt}, {math.MinInt, math.MinInt, 5}} {
		if fair.Fair(config(), recs, x[0], x[1], x[2], good) {
			t.Errorf("P27.2: Fair from %d by %d, %d windows", x[0], x[1], x[2])
		}
	}
	if fair.Fair(config(), recs, 0, 7, 2, []int{1, 2}) {
		t.Error("P27.2: without good copies")
	}
	if !reflect.DeepEqual(recs, before) || !slices.Equal(good, []int{1, 2, 1}) {
		t.Error("R4: an argument was changed")
	}
}

func TestManyWindows(t *testing.T) {
	var recs []api.Rec
	for i := range 10001 {
		rec := of(api.EvDeliver, 0)
		rec.Sent, rec.Got = []api.Sent{{ID: i, From: 0, To: 1 + i%2}}, i-1
		recs = append(append(recs, plain()...), rec)
	}
	if !fair.Fair(config(), recs, 0, 7, 10000, good) || fair.Fair(config(), recs, 0, 7, 10001, good) {
		t.Error("P27.2: ten thousand windows")
	}
}
