package cluster_test

import (
	"math"
	"reflect"
	"slices"
	"testing"

	"inkhorn/api"
	"inkhorn/cluster"
	"inkhorn/msg"
	"inkhorn/pack"
	"inkhorn/place"
	"inkhorn/rank"
)

func config() api.Config {
	return api.Config{
		Words: []string{"a", "ab", "abc", "ac", "b"}, Cuts: []api.Key{{Len: 2}},
		Workers: 2, Copies: 1, Slots: 2, Batch: 3, Lease: 20, Hedge: 5, First: 2, Cap: 8, Jitter: 1, Net: 8,
	}
}

func open(t *testing.T, c api.Config) *cluster.Cluster {
	t.Helper()
	x, wrong := cluster.New(c)
	if x == nil || wrong != api.OK {
		t.Fatalf("P25.1: New: %d", wrong)
	}
	return x
}

func wake(node int) api.Event { return api.Event{Kind: api.EvWake, Node: node} }

func deliver(at int) api.Event { return api.Event{Kind: api.EvDeliver, At: at} }

func submit(text string, k int, n int) api.Event {
	return api.Event{Kind: api.EvSubmit, Query: api.Query{Text: text, K: k, N: n}}
}

// steps checks one event after the other; the events of the records are those that are played.
func steps(t *testing.T, x *cluster.Cluster, want ...api.Rec) {
	t.Helper()
	for i, w := range want {
		got := x.Step(w.Event)
		if got.Event != w.Event || got.Verdict != w.Verdict || got.ID != w.ID || got.Got != w.Got || !slices.Equal(got.Sent, w.Sent) || !slices.Equal(got.Lost, w.Lost) {
			t.Fatalf("P25.2: step %d: %v, not %v", i, got, w)
		}
	}
}

// none is the record of an event that has no effect.
func none(e api.Event) api.Rec { return api.Rec{Event: e, Got: -1} }

func sent(e api.Event, got int, all ...api.Sent) api.Rec {
	return api.Rec{Event: e, Got: got, Sent: all}
}

func lost(e api.Event, ids ...int) api.Rec { return api.Rec{Event: e, Got: -1, Lost: ids} }

// met returns a cluster in which both workers have an epoch; six datagrams were sent.
func met(t *testing.T, c api.Config) *cluster.Cluster {
	t.Helper()
	x := open(t, c)
	steps(t, x,
		sent(wake(1), -1, api.Sent{ID: 0, From: 1, To: 0}),
		sent(deliver(0), 0, api.Sent{ID: 1, From: 0, To: 1}),
		sent(deliver(0), 1),
		sent(wake(2), -1, api.Sent{ID: 2, From: 2, To: 0}),
		sent(deliver(0), 2, api.Sent{ID: 3, From: 0, To: 2}),
		sent(deliver(0), 3),
	)
	return x
}

func TestNew(t *testing.T) {
	bad := config()
	bad.Net = 7
	if x, wrong := cluster.New(bad); x != nil || wrong != api.ErrArg {
		t.Errorf("P25.1: New: %d", wrong)
	}
	x := open(t, config())
	if x.Coord() == nil || x.Net() == nil || x.Worker(0) != nil || x.Worker(3) != nil || x.Worker(-1) != nil || x.Worker(math.MaxInt) != nil || len(x.Records()) != 0 {
		t.Error("P25.1: the parts")
	}
	for i := 1; i <= 2; i++ {
		if w := x.Worker(i); w == nil || !w.Up() || w.Life() != 1 || w.Wake()[0].Msg != (api.Hello{Worker: i, Life: 1}) {
			t.Errorf("P25.1: worker %d", i)
		}
	}
	for range 8 {
		x.Step(wake(1))
	}
	if x.Net().Len() != 8 {
		t.Errorf("P25.1: the network holds %d", x.Net().Len())
	}
	steps(t, x, api.Rec{Event: wake(2), Got: -1, Sent: []api.Sent{{ID: 8, From: 2, To: 0}}, Lost: []int{8}})
}

func TestQueryAndAnswer(t *testing.T) {
	x := met(t, config())
	if x.Worker(1).Epoch() != 1 || x.Worker(2).Epoch() != 1 {
		t.Error("P25.2: the epochs")
	}
	steps(t, x,
		api.Rec{Event: submit("ab", 1, 3), Verdict: api.Accepted, ID: 1, Got: -1},
		sent(wake(0), -1, api.Sent{ID: 4, From: 0, To: 1}, api.Sent{ID: 5, From: 0, To: 2}),
		sent(deliver(1), 5),
		sent(wake(2), -1, api.Sent{ID: 6, From: 2, To: 0}),
		sent(deliver(1), 6),
	)
	told, _ := x.Coord().Told(1)
	if !slices.Equal(told.Items, []api.Item{{Word: "ab"}}) || told.Done {
		t.Errorf("P25.2: what is told: %v", told)
	}
	steps(t, x,
		sent(deliver(0), 4),
		sent(wake(1), -1, api.Sent{ID: 7, From: 1, To: 0}),
		sent(deliver(0), 7, api.Sent{ID: 8, From: 0, To: 1}, api.Sent{ID: 9, From: 0, To: 2}),
	)
	told, _ = x.Coord().Told(1)
	if !told.Done || !slices.Equal(told.Items, rank.Top(config().Words, told.Query)) {
		t.Errorf("P25.2: what is told: %v", told)
	}
}

func TestVerdictsAndCancel(t *testing.T) {
	x := open(t, config())
	cancel := func(id int) api.Event { return api.Event{Kind: api.EvCancel, At: id} }
	steps(t, x,
		api.Rec{Event: submit("a", 1, 1), Verdict: api.Accepted, ID: 1, Got: -1},
		api.Rec{Event: submit("a", 5, 1), Verdict: api.Invalid, Got: -1},
		api.Rec{Event: submit("a", 1, 1), Verdict: api.Accepted, ID: 2, Got: -1},
		api.Rec{Event: submit("a", 1, 1), Verdict: api.Busy, Got: -1},
		none(cancel(3)), none(cancel(0)),
		sent(cancel(1), -1, api.Sent{ID: 0, From: 0, To: 1}, api.Sent{ID: 1, From: 0, To: 2}),
		none(cancel(1)),
		api.Rec{Event: submit("0123456789abcdef", 1, 1), Verdict: api.Accepted, ID: 3, Got: -1, Sent: []api.Sent{{ID: 2, From: 0, To: 1}, {ID: 3, From: 0, To: 2}}},
		none(api.Event{Kind: api.EvTick}),
	)
	if x.Coord().Now() != 1 {
		t.Error("P25.2: EvTick")
	}
}

func TestLosses(t *testing.T) {
	x := met(t, config())
	drop := func(at int) api.Event { return api.Event{Kind: api.EvDrop, At: at} }
	double := api.Event{Kind: api.EvDouble, At: 0}
	spoil := api.Event{Kind: api.EvSpoil, At: 0, Node: 5, X: 3}
	steps(t, x,
		none(drop(0)), none(deliver(0)), none(double), none(spoil), none(drop(-1)), none(deliver(-1)),
		sent(wake(1), -1, api.Sent{ID: 4, From: 1, To: 0}),
		none(double),
		none(spoil),
		lost(deliver(0), 4),
		sent(deliver(0), 4, api.Sent{ID: 5, From: 0, To: 1}),
		none(double),
		lost(drop(1), 5),
		none(api.Event{Kind: api.EvCrash, Node: 1}),
		lost(deliver(0), 5),
		none(wake(1)),
		none(api.Event{Kind: api.EvRestart, Node: 1}),
		sent(wake(1), -1, api.Sent{ID: 6, From: 1, To: 0}),
		sent(deliver(0), 6, api.Sent{ID: 7, From: 0, To: 1}),
	)
	if x.Worker(1).Life() != 2 || x.Coord().Epoch(1) != 2 {
		t.Error("P25.2: a restarted worker")
	}
}

func TestSpoilArguments(t *testing.T) {
	x := open(t, config())
	x.Step(wake(1))
	before := x.Net().List()[0].Frame
	x.Step(api.Event{Kind: api.EvSpoil, At: 0, Node: 17, X: 6})
	before[17%len(before)] ^= 7
	if g := x.Net().List()[0]; !g.Spoilt || !slices.Equal(g.Frame, before) {
		t.Errorf("P25.2: EvSpoil left %v, not %v", g, before)
	}
}

func TestRotAndMend(t *testing.T) {
	x := open(t, config())
	read := func() []byte {
		b, _ := x.Worker(1).Disk().Read(0)
		return b
	}
	original := read()
	for _, down := range []bool{false, true} {
		for _, n := range []int{0, 3, 4096*5 + 2, 4096*254 + 4095, -1, math.MinInt, math.MaxInt} {
			steps(t, x, none(api.Event{Kind: api.EvRot, Node: 1, At: 0, X: n}))
			want := slices.Clone(original)
			want[int(uint64(n)%4096)%len(want)] ^= byte(1 + uint64(n)/4096%255)
			if got := read(); !slices.Equal(got, want) {
				t.Errorf("P25.2: EvRot by %d: %v, not %v", n, got, want)
			}
		}
		steps(t, x, none(api.Event{Kind: api.EvMend, Node: 1, At: 0}))
		if !slices.Equal(read(), original) {
			t.Error("P25.2: EvMend")
		}
		if !down {
			steps(t, x, none(api.Event{Kind: api.EvCrash, Node: 1}))
		}
	}
	steps(t, x, none(api.Event{Kind: api.EvRot, Node: 1, At: 1}), none(api.Event{Kind: api.EvMend, Node: 1, At: 1}))
}

func TestNoEffect(t *testing.T) {
	x := open(t, config())
	for _, kind := range []int{0, -1, 13, math.MinInt, math.MaxInt} {
		steps(t, x, none(api.Event{Kind: kind, Node: 1, At: 0, X: 1}))
	}
	for _, node := range []int{-1, 3, math.MinInt, math.MaxInt} {
		for _, kind := range []int{api.EvWake, api.EvCrash, api.EvRestart, api.EvRot, api.EvMend} {
			steps(t, x, none(api.Event{Kind: kind, Node: node}))
		}
	}
	for _, kind := range []int{api.EvCrash, api.EvRestart, api.EvRot, api.EvMend} {
		steps(t, x, none(api.Event{Kind: kind, Node: 0}))
	}
	if !x.Worker(1).Up() || !x.Worker(2).Up() || x.Net().Len() != 0 || len(x.Records()) != 5+20+4 {
		t.Error("P25.2: an event without effect")
	}
}

func TestEarlierEpoch(t *testing.T) {
	x := met(t, config())
	x.Step(submit("ab", 1, 3))
	x.Step(wake(0))
	x.Step(deliver(1))
	x.Step(wake(2))
	// The reply of worker 2 waits while the worker starts again and is granted another epoch.
	x.Step(api.Event{Kind: api.EvCrash, Node: 2})
	x.Step(api.Event{Kind: api.EvRestart, Node: 2})
	x.Step(wake(2))
	x.Step(deliver(2))
	if x.Coord().Epoch(2) != 2 {
		t.Fatal("T7: the epoch")
	}
	reply := x.Net().List()[1]
	if m, _ := msg.Decode(reply.Frame); msg.Kind(m) != 4 {
		t.Fatalf("T7: no reply: %v", m)
	}
	timers := x.Coord().Timers()
	if rec := x.Step(deliver(1)); rec.Got != reply.ID || len(rec.Sent) != 0 || x.Coord().Timers() != timers {
		t.Errorf("T7: a reply of an earlier epoch: %v", rec)
	}
	if told, _ := x.Coord().Told(1); len(told.Items) != 0 {
		t.Errorf("T7: a reply of an earlier epoch: %v", told)
	}
}

func TestRottenAtStart(t *testing.T) {
	x := open(t, config())
	for _, n := range []int{0, 7, 4096 * 9, 12345} {
		x.Step(api.Event{Kind: api.EvRot, Node: 2, At: 1, X: n})
		if words, wrong := x.Worker(2).Words(1); wrong != api.OK && n == 0 || wrong == api.OK && !slices.Equal(words, place.Words(config(), 1)) {
			t.Errorf("T6: rot of a loaded image: %q, %d", words, wrong)
		}
		x.Step(api.Event{Kind: api.EvCrash, Node: 2})
		x.Step(api.Event{Kind: api.EvRestart, Node: 2})
		if words, wrong := x.Worker(2).Words(1); words != nil || wrong != api.ErrSum {
			t.Errorf("T6: a rotten image: %q, %d", words, wrong)
		}
		stored, _ := x.Worker(2).Disk().Read(1)
		if _, wrong := pack.Decode(stored); wrong != api.ErrSum {
			t.Errorf("T6: the stored bytes: %d", wrong)
		}
	}
}

func TestRecordsAreFresh(t *testing.T) {
	x := met(t, config())
	rec := x.Step(wake(1))
	rec.Sent[0] = api.Sent{}
	all := x.Records()
	if len(all) != 7 || !slices.Equal(all[6].Sent, []api.Sent{{ID: 4, From: 1, To: 0}}) || all[6].Event != wake(1) {
		t.Errorf("P25.1: Records: %v", all)
	}
	all[6].Sent[0] = api.Sent{}
	x.Step(api.Event{Kind: api.EvDrop})
	x.Records()[7].Lost[0] = 99
	if again := x.Records(); again[6].Sent[0].ID != 4 || again[7].Lost[0] != 4 {
		t.Errorf("R4: Records: %v", again)
	}
}

func TestRun(t *testing.T) {
	bad := config()
	bad.Words = []string{""}
	if told, recs, wrong := cluster.Run(bad, []api.Event{wake(1)}); told != nil || recs != nil || wrong != api.ErrArg {
		t.Errorf("P25.1: Run: %v, %v, %d", told, recs, wrong)
	}
	es := make([]api.Event, 4001)
	for i := range es {
		es[i] = api.Event{Kind: api.EvTick}
	}
	es[0], es[3999], es[4000] = submit("a", 1, 1), submit("b", 1, 1), submit("ab", 1, 1)
	told, recs, wrong := cluster.Run(config(), es)
	if wrong != api.OK || len(recs) != 4000 || len(told) != 2 || told[1].Query.Text != "b" || recs[3999].ID != 2 {
		t.Errorf("P25.1: Run of 4001 events: %v, %d, %d", told, len(recs), wrong)
	}
	told, recs, wrong = cluster.Run(config(), nil)
	if len(told) != 0 || len(recs) != 0 || wrong != api.OK {
		t.Errorf("P25.1: Run of nothing: %v, %v, %d", told, recs, wrong)
	}
}

func TestNil(t *testing.T) {
	var x *cluster.Cluster
	if got := x.Step(wake(1)); !reflect.DeepEqual(got, none(wake(1))) {
		t.Errorf("R3: Step of a nil cluster: %v", got)
	}
	if x.Records() != nil || x.Coord() != nil || x.Worker(1) != nil || x.Net() != nil {
		t.Error("R3: a nil cluster")
	}
}
