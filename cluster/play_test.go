package cluster_test

import (
	"fmt"
	"math/rand/v2"
	"reflect"
	"slices"
	"testing"

	"inkhorn/api"
	"inkhorn/backoff"
	"inkhorn/cluster"
	"inkhorn/list"
	"inkhorn/msg"
	"inkhorn/place"
	"inkhorn/rank"
)

func drawText(rng *rand.Rand, least int, most int) string {
	s := ""
	for range least + rng.IntN(most-least+1) {
		s += string([]rune{'a', 'b', 'é'}[rng.IntN(3)])
	}
	return s
}

func drawConfig(rng *rand.Rand) api.Config {
	for {
		var words []string
		for range rng.IntN(60) {
			words = append(words, drawText(rng, 1, 1+rng.IntN(6)))
		}
		var cuts []api.Key
		for n := range rng.IntN(6) {
			cuts = append(cuts, api.Key{Len: 1 + n, Text: drawText(rng, 0, 2)})
		}
		c := api.Config{
			Words: list.Sorted(words), Cuts: cuts, Workers: 1 + rng.IntN(5), Copies: 1 + rng.IntN(3), Slots: 1 + rng.IntN(4), Batch: 1 + rng.IntN(5),
			Lease: 1 + rng.IntN(30), Hedge: 1 + rng.IntN(10), First: 1 + rng.IntN(3), Cap: 3 + rng.IntN(10), Jitter: rng.IntN(4), Net: 8 + rng.IntN(57),
		}
		if place.May(c) {
			return c
		}
	}
}

// drawEvent returns an event; deliveries and wakes are drawn most often.
func drawEvent(rng *rand.Rand, c api.Config) api.Event {
	e := api.Event{Node: rng.IntN(c.Workers + 1), At: rng.IntN(6), X: rng.IntN(1 << 21)}
	switch n := rng.IntN(100); {
	case n < 6:
		q := api.Query{Text: drawText(rng, 0, 6), K: rng.IntN(5), N: 1 + rng.IntN(10)}
		if rng.IntN(10) == 0 {
			q.K = 5
		}
		return api.Event{Kind: api.EvSubmit, Query: q}
	case n < 8:
		e.Kind, e.At = api.EvCancel, rng.IntN(30)
	case n < 18:
		e.Kind = api.EvTick
	case n < 48:
		e.Kind = api.EvWake
	case n < 86:
		e.Kind = api.EvDeliver
	default:
		e.Kind = api.EvDrop + n%7
	}
	return e
}

// watch follows a play and knows what must hold of it.
type watch struct {
	conf   api.Config
	x      *cluster.Cluster
	told   []api.Told
	rotten map[[2]int]bool // what each worker rejects since its last start
	id     int             // the last number that was given
}

func (w *watch) step(e api.Event) error {
	open := 0
	for _, t := range w.told {
		if !t.Done && !t.Cancelled {
			open++
		}
	}
	start := e.Kind == api.EvRestart && w.x.Worker(e.Node) != nil && !w.x.Worker(e.Node).Up()
	var gram *api.Gram
	if grams := w.x.Net().List(); e.Kind == api.EvDeliver && e.At < len(grams) {
		gram = &grams[e.At]
	}
	rec := w.x.Step(e)
	if start {
		for s := range place.Shards(w.conf) {
			w.rotten[[2]int{e.Node, s}] = w.x.Worker(e.Node).Disk().Rotten(s)
		}
	}
	if gram != nil {
		gone := gram.Spoilt || !w.up(gram.To)
		if gone != slices.Contains(rec.Lost, gram.ID) || gone != (rec.Got == -1) || !gone && rec.Got != gram.ID {
			return fmt.Errorf("P25.3: %v gave %v", *gram, rec)
		}
	}
	if err := w.verdict(rec, open); err != nil {
		return err
	}
	if err := w.bounds(); err != nil {
		return err
	}
	if err := w.words(); err != nil {
		return err
	}
	return w.results()
}

func (w *watch) up(node int) bool {
	return node == 0 || w.x.Worker(node).Up()
}

func (w *watch) verdict(rec api.Rec, open int) error {
	want, id := 0, 0
	switch {
	case rec.Event.Kind != api.EvSubmit:
	case !rank.May(rec.Event.Query):
		want = api.Invalid
	case open >= w.conf.Slots:
		want = api.Busy
	default:
		want = api.Accepted
		w.id++
		id = w.id
	}
	if rec.Verdict != want || rec.ID != id {
		return fmt.Errorf("T4: %v, not %d, %d", rec, want, id)
	}
	return nil
}

func (w *watch) bounds() error {
	if w.x.Net().Len() > w.conf.Net || w.x.Coord().Timers() > w.conf.Slots*place.Shards(w.conf) || backoff.Most(w.conf) < w.conf.Cap {
		return fmt.Errorf("T5: %d datagrams, %d timers", w.x.Net().Len(), w.x.Coord().Timers())
	}
	for i := range w.conf.Workers {
		if n := len(w.x.Worker(i + 1).Waiting()); n > api.MaxSlots*api.MaxShards {
			return fmt.Errorf("T5: %d requests", n)
		}
	}
	for _, g := range w.x.Net().List() {
		if m, wrong := msg.Decode(g.Frame); (wrong == api.OK) == g.Spoilt || wrong == api.OK && !msg.May(m) {
			return fmt.Errorf("P25.3: %v: %d", g, wrong)
		}
	}
	return nil
}

func (w *watch) words() error {
	for i := range w.conf.Workers {
		node := w.x.Worker(i + 1)
		for _, s := range place.Keeps(w.conf, i+1) {
			words, wrong := node.Words(s)
			want := api.OK
			if w.rotten[[2]int{i + 1, s}] {
				want = api.ErrSum
			}
			if !node.Up() {
				want = api.ErrDown
			}
			if wrong != want || wrong == api.OK && !slices.Equal(words, place.Words(w.conf, s)) {
				return fmt.Errorf("T6: shard %d of worker %d: %q, %d, not %d", s, i+1, words, wrong, want)
			}
		}
	}
	return nil
}

func (w *watch) results() error {
	now := w.x.Coord().All()
	for i, t := range now {
		top := rank.Top(w.conf.Words, t.Query)
		if len(t.Items) > len(top) || !slices.Equal(t.Items, top[:len(t.Items)]) || t.ID != i+1 || t.Done && t.Cancelled {
			return fmt.Errorf("T2: %v of %v", t, top)
		}
		if t.Done && len(t.Items) != len(top) {
			return fmt.Errorf("T1: %v of %v", t, top)
		}
		if i >= len(w.told) {
			continue
		}
		before := w.told[i]
		if len(before.Items) > len(t.Items) || (before.Done || before.Cancelled) && !reflect.DeepEqual(before, t) {
			return fmt.Errorf("T2: %v became %v", before, t)
		}
	}
	w.told = now
	return nil
}

func TestRandomPlays(t *testing.T) {
	done := 0
	for seed := range uint64(60) {
		rng := rand.New(rand.NewPCG(25, seed))
		c := drawConfig(rng)
		w := &watch{conf: c, x: open(t, c), rotten: map[[2]int]bool{}}
		var es []api.Event
		for i := range 1200 {
			e := drawEvent(rng, c)
			es = append(es, e)
			if err := w.step(e); err != nil {
				t.Fatalf("play %d, event %d, %v: %v", seed, i, e, err)
			}
		}
		for _, told := range w.told {
			if told.Done {
				done++
			}
		}
		told, recs, wrong := cluster.Run(c, es)
		if wrong != api.OK || !reflect.DeepEqual(told, w.told) || !reflect.DeepEqual(recs, w.x.Records()) {
			t.Fatalf("P25.1: Run of play %d is not what Step did", seed)
		}
	}
	if done < 100 {
		t.Errorf("only %d queries were done", done)
	}
}
