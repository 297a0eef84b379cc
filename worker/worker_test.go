package worker_test

import (
	"math"
	"reflect"
	"slices"
	"testing"

	"inkhorn/api"
	"inkhorn/place"
	"inkhorn/worker"
)

func config() api.Config {
	return api.Config{
		Words: []string{"a", "ab", "abc", "ac", "b", "zz"}, Cuts: []api.Key{{Len: 2}, {Len: 3}},
		Workers: 3, Copies: 2, Slots: 2, Batch: 3, Lease: 20, Hedge: 5, First: 2, Cap: 8, Jitter: 1, Net: 32,
	}
}

func open(t *testing.T, id int) *worker.Worker {
	t.Helper()
	w, wrong := worker.New(config(), id)
	if w == nil || wrong != api.OK {
		t.Fatalf("P21.1: New(%d): %d", id, wrong)
	}
	return w
}

func hello(id int, life int) []api.Letter {
	return []api.Letter{{To: 0, Msg: api.Hello{Worker: id, Life: life}}}
}

func ask(shard int, epoch int) api.Ask {
	return api.Ask{Slot: 1, Query: 7, Shard: shard, Seq: 0, Epoch: epoch, Text: "ab", K: 1, Batch: 2, First: true}
}

func TestNew(t *testing.T) {
	bad := config()
	bad.Slots = 0
	for _, x := range []struct {
		c  api.Config
		id int
	}{{bad, 1}, {config(), 0}, {config(), 4}, {config(), math.MinInt}} {
		if w, wrong := worker.New(x.c, x.id); w != nil || wrong != api.ErrArg {
			t.Errorf("P21.1: New of %d: %d", x.id, wrong)
		}
	}
	w := open(t, 1)
	if !w.Up() || w.Epoch() != 0 || w.Life() != 1 || w.Disk().Life() != 1 || len(w.Waiting()) != 0 {
		t.Error("P21.1: a new worker")
	}
}

func TestWords(t *testing.T) {
	for id := 1; id <= 3; id++ {
		w := open(t, id)
		for shard := -1; shard < 7; shard++ {
			words, wrong := w.Words(shard)
			if !slices.Contains(place.Keeps(config(), id), shard) {
				if words != nil || wrong != api.ErrNone {
					t.Errorf("P21.1: Words of %d by %d: %q, %d", shard, id, words, wrong)
				}
				continue
			}
			if wrong != api.OK || !slices.Equal(words, place.Words(config(), shard)) {
				t.Errorf("P21.1: Words of %d by %d: %q, %d", shard, id, words, wrong)
			}
		}
	}
}

func TestCrashAndRestart(t *testing.T) {
	w := open(t, 1)
	if w.Restart() != api.ErrBusy || w.Life() != 1 {
		t.Error("P21.1: Restart of a worker that is up")
	}
	w.Take(api.Grant{Worker: 1, Life: 1, Epoch: 4})
	w.Take(ask(0, 4))
	if w.Epoch() != 4 || len(w.Waiting()) != 1 || w.Crash() != api.OK || w.Crash() != api.ErrDown {
		t.Error("P21.1: Crash")
	}
	words, wrong := w.Words(0)
	none, missing := w.Words(99)
	if w.Up() || w.Epoch() != 0 || w.Life() != 1 || w.Waiting() != nil || words != nil || wrong != api.ErrDown || none != nil || missing != api.ErrDown || w.Wake() != nil {
		t.Error("P21.1: a worker that is down")
	}
	w.Take(api.Grant{Worker: 1, Life: 1, Epoch: 5})
	w.Take(ask(0, 4))
	w.Take(api.Stop{Slot: 1, Query: 9})
	if w.Restart() != api.OK || !w.Up() || w.Epoch() != 0 || w.Life() != 2 || len(w.Waiting()) != 0 || !reflect.DeepEqual(w.Wake(), hello(1, 2)) {
		t.Error("P21.1: Restart")
	}
	w.Take(api.Grant{Worker: 1, Life: 1, Epoch: 5})
	if w.Epoch() != 0 {
		t.Error("P21.2: a Grant for an earlier life")
	}
}

func TestGrants(t *testing.T) {
	w := open(t, 2)
	for _, g := range []api.Grant{{Worker: 1, Life: 1, Epoch: 3}, {Worker: 2, Life: 2, Epoch: 3}, {Worker: 2, Life: 0, Epoch: 3}, {Worker: 2, Life: 1, Epoch: 0}, {Worker: 2, Life: 1, Epoch: -1}} {
		w.Take(g)
		if w.Epoch() != 0 {
			t.Errorf("P21.2: %v gave epoch %d", g, w.Epoch())
		}
	}
	w.Take(&api.Grant{Worker: 2, Life: 1, Epoch: 3})
	if w.Epoch() != 0 {
		t.Error("P21.2: a pointer to a Grant")
	}
	for _, x := range [][2]int{{3, 3}, {2, 3}, {3, 3}, {5, 5}} {
		w.Take(api.Grant{Worker: 2, Life: 1, Epoch: x[0]})
		if w.Epoch() != x[1] {
			t.Errorf("P21.2: epoch %d gave %d", x[0], w.Epoch())
		}
	}
}

func TestAsks(t *testing.T) {
	w := open(t, 1)
	w.Take(ask(0, 0))
	if len(w.Waiting()) != 0 {
		t.Error("P21.2: an Ask without an epoch")
	}
	w.Take(api.Grant{Worker: 1, Life: 1, Epoch: 2})
	invalid := ask(0, 2)
	invalid.Batch = 0
	for _, m := range []any{ask(0, 1), ask(0, 3), ask(0, 0), ask(1, 2), ask(5, 2), invalid, nil, 5, api.Hello{Worker: 1, Life: 1}, api.Reply{Worker: 1}, new(api.Ask)} {
		w.Take(m)
		if len(w.Waiting()) != 0 || w.Epoch() != 2 {
			t.Errorf("P21.2: %#v has an effect", m)
		}
	}
	w.Take(ask(0, 2))
	w.Take(ask(2, 2))
	if !slices.Equal(w.Waiting(), []api.Ask{ask(0, 2), ask(2, 2)}) {
		t.Errorf("P21.2: Waiting: %v", w.Waiting())
	}
	w.Take(api.Stop{Slot: 0, Query: 9})
	w.Take(api.Stop{Slot: 1, Query: 6})
	if len(w.Waiting()) != 2 {
		t.Error("P21.2: a Stop for others")
	}
	w.Take(api.Stop{Slot: 1, Query: 7})
	if len(w.Waiting()) != 0 {
		t.Error("P21.2: a Stop")
	}
}

// TestDiskIsBorn has a disk that counts on while the worker is up.
func TestDiskIsBorn(t *testing.T) {
	w := open(t, 1)
	w.Disk().Born()
	if w.Life() != 2 || !reflect.DeepEqual(w.Wake(), hello(1, 1)) {
		t.Errorf("P21.1: the life of the disk is %d, that of the worker: %v", w.Life(), w.Wake())
	}
	w.Take(api.Grant{Worker: 1, Life: 2, Epoch: 5})
	if w.Epoch() != 0 {
		t.Error("P21.2: a Grant for the life of the disk")
	}
	w.Take(api.Grant{Worker: 1, Life: 1, Epoch: 5})
	w.Crash()
	if w.Restart() != api.OK || w.Life() != 3 || !reflect.DeepEqual(w.Wake(), hello(1, 3)) {
		t.Error("P21.1: the next life")
	}
}

// TestZeroNumbers has a request that a Stop of zeros would take out.
func TestZeroNumbers(t *testing.T) {
	w := open(t, 1)
	w.Take(api.Grant{Worker: 1, Life: 1, Epoch: 2})
	zero := ask(0, 2)
	zero.Slot, zero.Query = 0, 0
	w.Take(zero)
	for _, m := range []any{api.Hello{}, api.Grant{}, api.Reply{}, ask(1, 2), nil} {
		w.Take(m)
		if !slices.Equal(w.Waiting(), []api.Ask{zero}) {
			t.Errorf("P21.2: %#v has an effect", m)
		}
	}
	w.Take(api.Stop{})
	if len(w.Waiting()) != 0 {
		t.Error("P21.2: a Stop of zeros")
	}
}

func TestWake(t *testing.T) {
	w := open(t, 2)
	if !reflect.DeepEqual(w.Wake(), hello(2, 1)) {
		t.Error("P21.3: Wake without an epoch")
	}
	w.Take(api.Grant{Worker: 2, Life: 1, Epoch: 2})
	if !reflect.DeepEqual(w.Wake(), hello(2, 1)) {
		t.Error("P21.3: Wake without a request")
	}
	later := ask(1, 2)
	later.Slot, later.Seq, later.First, later.After = 0, 3, false, api.Item{Dist: 1, Word: "ac"}
	w.Take(ask(1, 2))
	w.Take(later)
	w.Take(ask(0, 2))
	for _, want := range []api.Reply{
		{Slot: 1, Query: 7, Shard: 1, Worker: 2, Epoch: 2, Items: []api.Item{{Word: "ab"}, {Dist: 1, Word: "ac"}}, End: true},
		{Slot: 0, Query: 7, Shard: 1, Seq: 3, Worker: 2, Epoch: 2, Items: []api.Item{}, End: true},
		{Slot: 1, Query: 7, Shard: 0, Worker: 2, Epoch: 2, Items: []api.Item{{Dist: 1, Word: "a"}, {Dist: 1, Word: "b"}}, End: true},
	} {
		got := w.Wake()
		r, ok := got[0].Msg.(api.Reply)
		if len(got) != 1 || got[0].To != 0 || !ok || !slices.Equal(r.Items, want.Items) {
			t.Fatalf("P21.3: Wake: %v, not %v", got, want)
		}
		r.Items, want.Items = nil, nil
		if !reflect.DeepEqual(r, want) {
			t.Errorf("P21.3: Wake: %v, not %v", r, want)
		}
	}
	if !reflect.DeepEqual(w.Wake(), hello(2, 1)) {
		t.Error("P21.3: Wake after all requests")
	}
	one := ask(1, 2)
	one.Batch = 1
	w.Take(one)
	if r, ok := w.Wake()[0].Msg.(api.Reply); !ok || len(r.Items) != 1 || r.End {
		t.Errorf("P21.3: a batch of one: %v", r)
	}
}

func TestRottenImages(t *testing.T) {
	w := open(t, 1)
	w.Disk().Rot(2, 0, 0)
	if words, wrong := w.Words(2); wrong != api.OK || !slices.Equal(words, []string{"abc"}) {
		t.Errorf("P21.1: rot reaches what is loaded: %q, %d", words, wrong)
	}
	for at := range 40 {
		w.Disk().Rot(2, at, at)
		w.Crash()
		w.Restart()
		if words, wrong := w.Words(2); words != nil || wrong != api.ErrSum {
			t.Errorf("P21.4: Words of a rotten image: %q, %d", words, wrong)
		}
		if words, wrong := w.Words(0); wrong != api.OK || !slices.Equal(words, []string{"a", "b"}) {
			t.Errorf("P21.4: Words of a good image: %q, %d", words, wrong)
		}
		w.Take(api.Grant{Worker: 1, Life: w.Life(), Epoch: 1})
		w.Take(ask(2, 1))
		if len(w.Waiting()) != 0 {
			t.Error("P21.2: an Ask for a shard without a graph")
		}
	}
	w.Disk().Mend(2)
	if _, wrong := w.Words(2); wrong != api.ErrSum {
		t.Error("P21.1: a mended image is loaded by a start alone")
	}
	w.Crash()
	w.Restart()
	if words, wrong := w.Words(2); wrong != api.OK || !slices.Equal(words, []string{"abc"}) {
		t.Errorf("P21.4: Words of a mended image: %q, %d", words, wrong)
	}
}

func TestNil(t *testing.T) {
	var w *worker.Worker
	w.Take(api.Stop{})
	words, wrong := w.Words(0)
	if w.Crash() != api.ErrNil || w.Restart() != api.ErrNil || w.Up() || w.Epoch() != 0 || w.Life() != 0 || w.Disk() != nil || words != nil || wrong != api.ErrNil || w.Waiting() != nil || w.Wake() != nil {
		t.Error("R3: a nil worker")
	}
}
