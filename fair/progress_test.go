package fair_test

import (
	"math/rand/v2"
	"slices"
	"testing"

	"inkhorn/api"
	"inkhorn/cluster"
	"inkhorn/fair"
	"inkhorn/list"
	"inkhorn/place"
	"inkhorn/rank"
)

// foe plays as badly as fair windows allow: what good workers are sent or say arrives late,
// and everything else is lost, spoilt, or never happens.
type foe struct {
	rng   *rand.Rand
	conf  api.Config
	x     *cluster.Cluster
	good  []int
	sent  map[int]int // the window in which a datagram was sent
	index int
	recs  []api.Rec
}

func (f *foe) step(e api.Event) api.Rec {
	rec := f.x.Step(e)
	f.recs = append(f.recs, rec)
	for _, s := range rec.Sent {
		f.sent[s.ID] = f.index
	}
	return rec
}

func (f *foe) links(g api.Gram) bool {
	return g.From == 0 && slices.Contains(f.good, g.To) || g.To == 0 && slices.Contains(f.good, g.From)
}

// window plays b events: first what has to happen, then what may be put off no longer, then nothing.
func (f *foe) window(b int) {
	f.index++
	start := len(f.recs)
	nodes := f.rng.Perm(f.conf.Workers + 1)
	f.step(api.Event{Kind: api.EvTick})
	for _, n := range nodes {
		f.harm()
		f.step(api.Event{Kind: api.EvWake, Node: n, X: f.rng.IntN(100)})
	}
	f.settle()
	for len(f.recs) < start+b {
		f.step(api.Event{})
	}
}

// harm does something to the workers that are not good, or to what is on the way from or to them.
func (f *foe) harm() {
	bad := 1 + f.rng.IntN(f.conf.Workers)
	if !slices.Contains(f.good, bad) {
		f.step(api.Event{Kind: []int{api.EvCrash, api.EvRestart, api.EvRot}[f.rng.IntN(3)], Node: bad, At: f.rng.IntN(6), X: f.rng.IntN(1 << 20)})
	}
}

// settle drops or delivers all that is in transit, but for what good workers are concerned with and was sent in this window.
func (f *foe) settle() {
	for f.x.Net().Len() > 0 {
		grams := f.x.Net().List()
		i := slices.IndexFunc(grams, func(g api.Gram) bool { return !f.links(g) || f.sent[g.ID] < f.index })
		if i < 0 && (len(grams) <= f.conf.Net/2 || f.rng.IntN(4) == 0) {
			return
		}
		i = max(i, 0)
		if !f.links(grams[i]) && f.rng.IntN(3) > 0 {
			f.step(api.Event{Kind: api.EvDrop, At: i})
		} else {
			f.step(api.Event{Kind: api.EvDeliver, At: i})
		}
	}
}

func drawConfig(rng *rand.Rand) api.Config {
	for {
		var words []string
		for range 5 + rng.IntN(30) {
			w := ""
			for range 1 + rng.IntN(4) {
				w += string(rune('a' + rng.IntN(3)))
			}
			words = append(words, w)
		}
		c := api.Config{
			Words: list.Sorted(words), Cuts: []api.Key{{Len: 2}, {Len: 3}}[:rng.IntN(3)], Workers: 1 + rng.IntN(4), Copies: 1 + rng.IntN(3), Slots: 1 + rng.IntN(2), Batch: 1 + rng.IntN(3),
			Lease: 1 + rng.IntN(20), Hedge: 1 + rng.IntN(9), First: 1 + rng.IntN(2), Cap: 2 + rng.IntN(4), Jitter: rng.IntN(3), Net: 64,
		}
		if place.May(c) {
			return c
		}
	}
}

func TestProgress(t *testing.T) {
	const b = 150
	for seed := range uint64(25) {
		rng := rand.New(rand.NewPCG(27, seed))
		c := drawConfig(rng)
		x, wrong := cluster.New(c)
		if wrong != api.OK {
			t.Fatal(wrong)
		}
		f := &foe{rng: rng, conf: c, x: x, sent: map[int]int{}}
		for s := range place.Shards(c) {
			copies := place.Copies(c, s)
			f.good = append(f.good, copies[rng.IntN(len(copies))])
		}
		q := api.Query{Text: "ab", K: rng.IntN(5), N: 1 + rng.IntN(10)}
		for id := range c.Slots {
			if rec := f.step(api.Event{Kind: api.EvSubmit, Query: q}); rec.Verdict != api.Accepted || rec.ID != id+1 {
				t.Fatalf("play %d: %v", seed, rec)
			}
		}
		from, windows := len(f.recs), fair.Bound(c, q.N)
		for range windows {
			f.window(b)
		}
		if !fair.Fair(c, f.recs, from, b, windows, f.good) {
			t.Fatalf("play %d: the test does not play fair windows", seed)
		}
		for _, told := range x.Coord().All() {
			if !told.Done || !slices.Equal(told.Items, rank.Top(c.Words, q)) {
				t.Errorf("P27.3: play %d: %v after %d windows", seed, told, windows)
			}
		}
	}
}
