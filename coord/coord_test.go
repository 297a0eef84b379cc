package coord_test

import (
	"math"
	"reflect"
	"slices"
	"testing"

	"inkhorn/api"
	"inkhorn/coord"
)

// config has the shards of the words of 1, of 2, and of more runes; shard s is kept by workers s + 1 and s + 2, by turns.
func config() api.Config {
	return api.Config{
		Words: []string{"a", "ab", "abc", "b"}, Cuts: []api.Key{{Len: 2}, {Len: 3}},
		Workers: 3, Copies: 2, Slots: 2, Batch: 3, Lease: 20, Hedge: 5, First: 2, Cap: 8, Jitter: 1, Net: 32,
	}
}

func open(t *testing.T, c api.Config) *coord.Coord {
	t.Helper()
	x, wrong := coord.New(c)
	if x == nil || wrong != api.OK {
		t.Fatalf("P24.1: New: %d", wrong)
	}
	return x
}

// ready returns a coordinator that has heard of all three workers.
func ready(t *testing.T, c api.Config) *coord.Coord {
	t.Helper()
	x := open(t, c)
	for w := 1; w <= 3; w++ {
		x.Take(api.Hello{Worker: w, Life: 1})
	}
	return x
}

func query(text string, k int, n int) api.Query {
	return api.Query{Text: text, K: k, N: n}
}

func submit(t *testing.T, x *coord.Coord, q api.Query, verdict int, id int) []api.Letter {
	t.Helper()
	v, i, letters := x.Submit(q)
	if v != verdict || i != id {
		t.Fatalf("P24.1: Submit(%v) = %d, %d, not %d, %d", q, v, i, verdict, id)
	}
	return letters
}

func same(t *testing.T, what string, got []api.Letter, want ...api.Letter) {
	t.Helper()
	if len(got) != len(want) || len(want) > 0 && !reflect.DeepEqual(got, want) {
		t.Errorf("%s: %v, not %v", what, got, want)
	}
}

func stops(slot int, id int) []api.Letter {
	var out []api.Letter
	for w := 1; w <= 3; w++ {
		out = append(out, api.Letter{To: w, Msg: api.Stop{Slot: slot, Query: id}})
	}
	return out
}

// first is the letter with which a shard is asked for its first batch for the query {"ab", 1, 3}.
func first(to int, slot int, id int, shard int) api.Letter {
	return api.Letter{To: to, Msg: api.Ask{Slot: slot, Query: id, Shard: shard, Epoch: 1, Text: "ab", K: 1, Batch: 3, First: true}}
}

func told(t *testing.T, x *coord.Coord, want api.Told) {
	t.Helper()
	got, ok := x.Told(want.ID)
	if !ok || got.ID != want.ID || got.Query != want.Query || !slices.Equal(got.Items, want.Items) || got.Done != want.Done || got.Cancelled != want.Cancelled {
		t.Errorf("P24.1: Told(%d) = %v, %v, not %v", want.ID, got, ok, want)
	}
}

func ticks(x *coord.Coord, n int) {
	for range n {
		x.Tick()
	}
}

func TestNew(t *testing.T) {
	noLease, noNet, noWord := config(), config(), config()
	noLease.Lease, noNet.Net, noWord.Words = 0, 7, []string{""}
	for _, c := range []api.Config{noLease, noNet, noWord, {}} {
		if x, wrong := coord.New(c); x != nil || wrong != api.ErrArg {
			t.Errorf("P24.1: New: %d", wrong)
		}
	}
	x := open(t, config())
	if got, ok := x.Told(1); ok || !reflect.DeepEqual(got, api.Told{}) || len(x.All()) != 0 || x.Now() != 0 || x.Timers() != 0 || x.Epoch(1) != 0 {
		t.Error("P24.1: a new coordinator")
	}
	ticks(x, 3)
	if x.Now() != 3 {
		t.Errorf("P24.1: Now = %d", x.Now())
	}
}

func TestSubmitAndCancel(t *testing.T) {
	x := open(t, config())
	q := query("ab", 1, 3)
	same(t, "P24.1: an invalid query", submit(t, x, query("\xff", 1, 3), api.Invalid, 0))
	same(t, "P24.1: Submit", submit(t, x, q, api.Accepted, 1))
	same(t, "P24.1: Submit", submit(t, x, query("ab", 0, 1), api.Accepted, 2))
	same(t, "P24.1: a busy coordinator", submit(t, x, q, api.Busy, 0))
	same(t, "P24.1: an invalid query", submit(t, x, query("a", 1, 0), api.Invalid, 0))
	told(t, x, api.Told{ID: 1, Query: q})
	for _, id := range []int{0, 3, -1, math.MaxInt} {
		if letters, wrong := x.Cancel(id); letters != nil || wrong != api.ErrNone {
			t.Errorf("P24.1: Cancel(%d): %v, %d", id, letters, wrong)
		}
	}
	x.Wake(0)
	if x.Timers() != 4 {
		t.Errorf("P24.4: %d timers", x.Timers())
	}
	letters, wrong := x.Cancel(1)
	same(t, "P24.2: Cancel", letters, stops(0, 1)...)
	if wrong != api.OK || x.Timers() != 1 {
		t.Errorf("P24.2: Cancel: %d; %d timers", wrong, x.Timers())
	}
	told(t, x, api.Told{ID: 1, Query: q, Cancelled: true})
	if letters, wrong := x.Cancel(1); letters != nil || wrong != api.ErrNone {
		t.Errorf("P24.1: Cancel again: %v, %d", letters, wrong)
	}
	same(t, "P24.1: Submit to the free slot", submit(t, x, q, api.Accepted, 3))
	letters, _ = x.Cancel(3)
	same(t, "P24.2: Cancel", letters, stops(0, 3)...)
	all := x.All()
	if len(all) != 3 || all[0].ID != 1 || all[1].ID != 2 || all[2].ID != 3 || !all[0].Cancelled || all[1].Cancelled || !all[2].Cancelled {
		t.Errorf("P24.1: All = %v", all)
	}
}

func TestNothingToAsk(t *testing.T) {
	x := ready(t, config())
	q := query("0123456789abcdef", 3, 5)
	same(t, "P24.2: a query that is too long for all words", submit(t, x, q, api.Accepted, 1), stops(0, 1)...)
	told(t, x, api.Told{ID: 1, Query: q, Done: true})
	same(t, "P24.4: Wake", x.Wake(0))
	if _, wrong := x.Cancel(1); wrong != api.ErrNone {
		t.Errorf("P24.1: Cancel of a query that is done: %d", wrong)
	}
	submit(t, x, query("0123456789abcdef", 4, 5), api.Accepted, 2)
	if letters := x.Wake(0); len(letters) != 1 || letters[0].To != 3 {
		t.Errorf("P24.4: only the last shard can have such a word: %v", letters)
	}
}

func TestHello(t *testing.T) {
	x := open(t, config())
	same(t, "P24.3: Hello", x.Take(api.Hello{Worker: 1, Life: 1}), api.Letter{To: 1, Msg: api.Grant{Worker: 1, Life: 1, Epoch: 1}})
	same(t, "P24.3: Hello again", x.Take(api.Hello{Worker: 1, Life: 1}), api.Letter{To: 1, Msg: api.Grant{Worker: 1, Life: 1, Epoch: 1}})
	same(t, "P24.3: a later life", x.Take(api.Hello{Worker: 1, Life: 5}), api.Letter{To: 1, Msg: api.Grant{Worker: 1, Life: 5, Epoch: 2}})
	if x.Epoch(1) != 2 || x.Epoch(2) != 0 || x.Epoch(0) != 0 || x.Epoch(4) != 0 {
		t.Errorf("P24.1: Epoch = %d", x.Epoch(1))
	}
	for _, m := range []any{api.Hello{Worker: 1, Life: 4}, api.Hello{Worker: 4, Life: 1}, api.Hello{Worker: 2}, api.Grant{Worker: 1, Life: 1, Epoch: 9}, api.Stop{}, api.Ask{}, api.Reply{}, nil, 3, &api.Hello{Worker: 2, Life: 1}} {
		same(t, "P24.3: a message without effect", x.Take(m))
	}
	if x.Epoch(1) != 2 || x.Epoch(2) != 0 {
		t.Error("P24.3: a message without effect has one")
	}
}

func TestReplies(t *testing.T) {
	x := ready(t, config())
	q := query("ab", 1, 3)
	submit(t, x, q, api.Accepted, 1)
	same(t, "P24.4: Wake", x.Wake(0), first(1, 0, 1, 0), first(2, 0, 1, 1), first(3, 0, 1, 2))
	good := api.Reply{Slot: 0, Query: 1, Shard: 1, Worker: 2, Epoch: 1, Items: []api.Item{{Word: "ab"}}, End: true}
	for name, change := range map[string]func(r *api.Reply){
		"an invalid reply":         func(r *api.Reply) { r.Items = []api.Item{{}} },
		"another slot":             func(r *api.Reply) { r.Slot = 1 },
		"another query":            func(r *api.Reply) { r.Query = 2 },
		"no such shard":            func(r *api.Reply) { r.Shard = 3 },
		"a worker without a copy":  func(r *api.Reply) { r.Worker = 1 },
		"an item that is too far":  func(r *api.Reply) { r.Items = []api.Item{{Dist: 2, Word: "xx"}} },
		"an earlier epoch":         func(r *api.Reply) { r.Epoch = 0 },
		"a later epoch":            func(r *api.Reply) { r.Epoch = 2 },
		"a later batch":            func(r *api.Reply) { r.Seq = 1 },
		"nothing, and not the end": func(r *api.Reply) { r.Items, r.End = nil, false },
	} {
		r := good
		change(&r)
		same(t, "P24.3: "+name, x.Take(r))
		if x.Timers() != 3 {
			t.Fatalf("P24.3: %s has an effect", name)
		}
	}
	same(t, "P24.3: a pointer to a reply", x.Take(&good))
	same(t, "P24.3: the first reply", x.Take(good))
	told(t, x, api.Told{ID: 1, Query: q, Items: []api.Item{{Word: "ab"}}})
	same(t, "P24.3: the same reply again", x.Take(good))
	if x.Timers() != 2 {
		t.Errorf("P24.3: %d timers", x.Timers())
	}
	same(t, "P24.3: the second reply", x.Take(api.Reply{Query: 1, Shard: 0, Worker: 2, Epoch: 1, Items: []api.Item{{Dist: 1, Word: "a"}, {Dist: 1, Word: "b"}}, End: true}))
	told(t, x, api.Told{ID: 1, Query: q, Items: []api.Item{{Word: "ab"}}})
	last := api.Reply{Query: 1, Shard: 2, Worker: 1, Epoch: 1, Items: []api.Item{{Dist: 1, Word: "abc"}}, End: true}
	same(t, "P24.2: the last reply", x.Take(last), stops(0, 1)...)
	told(t, x, api.Told{ID: 1, Query: q, Items: []api.Item{{Word: "ab"}, {Dist: 1, Word: "a"}, {Dist: 1, Word: "abc"}}, Done: true})
	same(t, "P24.3: a reply after the end", x.Take(last))
	if x.Timers() != 0 {
		t.Errorf("P24.2: %d timers after the end", x.Timers())
	}
	same(t, "P24.4: Wake after the end", x.Wake(0))
}

func TestNextBatch(t *testing.T) {
	x := ready(t, config())
	submit(t, x, query("ab", 1, 3), api.Accepted, 1)
	x.Wake(0)
	x.Take(api.Reply{Query: 1, Shard: 1, Worker: 2, Epoch: 1, Items: []api.Item{{Word: "ab"}}})
	same(t, "P24.4: the next batch", x.Wake(0), api.Letter{To: 2, Msg: api.Ask{Query: 1, Shard: 1, Seq: 1, Epoch: 1, Text: "ab", K: 1, Batch: 3, After: api.Item{Word: "ab"}}})
	x.Take(api.Reply{Query: 1, Shard: 1, Seq: 1, Worker: 3, Epoch: 1, Items: []api.Item{{Dist: 1, Word: "ac"}}})
	ticks(x, 1)
	same(t, "P24.4: a shard of which items are waiting is not asked", x.Wake(0))
}

func TestRetries(t *testing.T) {
	c := config()
	c.Hedge, c.Cuts, c.Slots = 1000, nil, 1
	x := open(t, c)
	for _, w := range []int{1, 2} {
		x.Take(api.Hello{Worker: w, Life: 1})
	}
	submit(t, x, query("ab", 1, 3), api.Accepted, 1)
	same(t, "P24.4: the first try", x.Wake(0), first(1, 0, 1, 0))
	ticks(x, 1)
	same(t, "P24.4: before the timer", x.Wake(0))
	now := 1
	// The delays are 2, 4, 8, 8, .. ticks, and 1 more where draw is odd.
	for i, wait := range []int{2, 4, 8, 8, 8, 8, 8, 8, 8} {
		ticks(x, wait-1)
		same(t, "P24.4: a retry", x.Wake(0), first(1+(i+1)%2, 0, 1, 0))
		ticks(x, 1)
		same(t, "P24.4: before the timer", x.Wake(0))
		now += wait
		if x.Now() != now || x.Timers() != 1 {
			t.Fatalf("P24.4: at %d, %d timers", x.Now(), x.Timers())
		}
	}
	ticks(x, 7)
	x.Wake(-1)
	ticks(x, 8)
	same(t, "P24.4: before the timer with its random part", x.Wake(0))
	ticks(x, 1)
	if letters := x.Wake(0); len(letters) != 1 {
		t.Errorf("P24.4: at the timer with its random part: %v", letters)
	}
}

func TestHedges(t *testing.T) {
	c := config()
	c.First, c.Cap, c.Hedge, c.Cuts, c.Copies, c.Lease = 4, 4, 5, nil, 3, 1000
	x := ready(t, c)
	submit(t, x, query("ab", 1, 3), api.Accepted, 1)
	same(t, "P24.4: at 0", x.Wake(0), first(1, 0, 1, 0))
	ticks(x, 4)
	same(t, "P24.4: at 4, a retry", x.Wake(0), first(2, 0, 1, 0))
	same(t, "P24.4: at 4", x.Wake(0))
	ticks(x, 1)
	same(t, "P24.4: at 5, a hedge", x.Wake(0), first(3, 0, 1, 0))
	same(t, "P24.4: one hedge is enough", x.Wake(0))
	ticks(x, 3)
	same(t, "P24.4: at 8, a retry at the timer that the hedge has left", x.Wake(0), first(3, 0, 1, 0))
	ticks(x, 1)
	same(t, "P24.4: at 9, hedged still", x.Wake(0))
	x.Take(api.Reply{Query: 1, Worker: 2, Epoch: 1, Items: []api.Item{{Word: "ab"}}})
	again := api.Ask{Query: 1, Seq: 1, Epoch: 1, Text: "ab", K: 1, Batch: 3, After: api.Item{Word: "ab"}}
	same(t, "P24.4: at 9, the next batch", x.Wake(0), api.Letter{To: 1, Msg: again})
	ticks(x, 1)
	same(t, "P24.4: at 10, too early for all", x.Wake(0))
	ticks(x, 3)
	same(t, "P24.4: at 13, a retry", x.Wake(0), api.Letter{To: 2, Msg: again})
	ticks(x, 1)
	same(t, "P24.4: at 14, a hedge of the next batch", x.Wake(0), api.Letter{To: 3, Msg: again})
}

func TestTurns(t *testing.T) {
	c := config()
	c.Cuts, c.Copies, c.Lease, c.Hedge = nil, 3, 2, 1
	x := open(t, c)
	submit(t, x, query("ab", 1, 3), api.Accepted, 1)
	same(t, "P24.4: no worker is known", x.Wake(0))
	if x.Timers() != 1 {
		t.Error("P24.4: the timer is set though nothing was sent")
	}
	x.Take(api.Hello{Worker: 3, Life: 1})
	ticks(x, 1)
	same(t, "P24.4: a hedge to a worker without an epoch", x.Wake(0))
	x.Take(api.Hello{Worker: 2, Life: 1})
	same(t, "P24.4: that was the hedge", x.Wake(0))
	x.Cancel(1)
	submit(t, x, query("ab", 1, 3), api.Accepted, 2)
	same(t, "P24.4: the first live copy", x.Wake(0), first(2, 0, 2, 0))
	x.Cancel(2)
	ticks(x, 2)
	x.Take(api.Hello{Worker: 3, Life: 1})
	ticks(x, 1)
	submit(t, x, query("ab", 1, 3), api.Accepted, 3)
	same(t, "P24.4: the lease of 2 has run out", x.Wake(0), first(3, 0, 3, 0))
	x.Cancel(3)
	ticks(x, 2)
	submit(t, x, query("ab", 1, 3), api.Accepted, 4)
	same(t, "P24.4: no copy is live, and the first one has no epoch", x.Wake(0))
	ticks(x, 2)
	same(t, "P24.4: a worker that is not live is asked in its turn", x.Wake(0), first(2, 0, 4, 0))
}

func TestSeenExtendsTheLease(t *testing.T) {
	c := config()
	c.Cuts, c.Copies, c.Lease = nil, 2, 3
	x := ready(t, c)
	submit(t, x, query("ab", 1, 3), api.Accepted, 1)
	submit(t, x, query("ab", 1, 3), api.Accepted, 2)
	ticks(x, 3)
	// A reply that the merge refuses is a sign of life; one for another query is none.
	x.Take(api.Reply{Query: 9, Worker: 1, Epoch: 1, End: true})
	x.Take(api.Reply{Query: 1, Worker: 2, Epoch: 1, Seq: 5, End: true})
	ticks(x, 1)
	same(t, "P24.3: which worker is live", x.Wake(0), first(2, 0, 1, 0), first(2, 1, 2, 0))
}

func TestSlotsInOrder(t *testing.T) {
	x := ready(t, config())
	submit(t, x, query("ab", 1, 3), api.Accepted, 1)
	submit(t, x, query("ab", 1, 3), api.Accepted, 2)
	x.Cancel(1)
	submit(t, x, query("ab", 1, 3), api.Accepted, 3)
	same(t, "P24.4: Wake", x.Wake(0), first(1, 0, 3, 0), first(2, 0, 3, 1), first(3, 0, 3, 2), first(1, 1, 2, 0), first(2, 1, 2, 1), first(3, 1, 2, 2))
}

func TestArgumentsAndResultsAreFresh(t *testing.T) {
	c := config()
	x := ready(t, c)
	c.Cuts[0].Len, c.Words[0] = 12, "zzz"
	submit(t, x, query("ab", 0, 3), api.Accepted, 1)
	same(t, "R4: the cuts", x.Wake(0), api.Letter{To: 2, Msg: api.Ask{Query: 1, Shard: 1, Epoch: 1, Text: "ab", Batch: 3, First: true}})
	items := []api.Item{{Word: "ab"}, {Word: "ac"}}
	x.Take(api.Reply{Query: 1, Shard: 1, Worker: 2, Epoch: 1, Items: items})
	items[0].Word = "x"
	got, _ := x.Told(1)
	got.Items[0].Word = "x"
	x.All()[0].Items[1].Word = "x"
	told(t, x, api.Told{ID: 1, Query: query("ab", 0, 3), Items: []api.Item{{Word: "ab"}, {Word: "ac"}}})
}

func TestNil(t *testing.T) {
	var x *coord.Coord
	x.Tick()
	verdict, id, letters := x.Submit(query("ab", 1, 3))
	stopped, wrong := x.Cancel(1)
	got, ok := x.Told(1)
	if verdict != 0 || id != 0 || letters != nil || stopped != nil || wrong != api.ErrNil || !reflect.DeepEqual(got, api.Told{}) || ok {
		t.Error("R3: a nil coordinator")
	}
	if x.Now() != 0 || x.Take(api.Hello{Worker: 1, Life: 1}) != nil || x.Wake(0) != nil || x.All() != nil || x.Timers() != 0 || x.Epoch(1) != 0 {
		t.Error("R3: a nil coordinator")
	}
}
