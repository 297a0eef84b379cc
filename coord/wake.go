package coord

import (
	"slices"

	"inkhorn/api"
	"inkhorn/backoff"
)

// Wake asks for what the queries want; draw chooses the random part of the delays.
func (x *Coord) Wake(draw int) []api.Letter {
	if x == nil {
		return nil
	}
	var out []api.Letter
	for slot := range x.conf.Slots {
		id, ok := x.slots.At(slot)
		if !ok {
			continue
		}
		for _, s := range x.queries[id].merge.Wants() {
			out = append(out, x.see(slot, id, s, draw)...)
		}
	}
	return out
}

// see asks for a shard's next batch for the first time, again, or as a hedge, if it is time.
func (x *Coord) see(slot int, id int, s int, draw int) []api.Letter {
	state := &x.queries[id].shards[s]
	at, set := x.timers.At(timerOf(slot, s))
	switch {
	case !set:
		*state = shard{turn: x.firstLive(s), asked: x.now}
	case at <= x.now:
		state.try = backoff.Try(state.try)
		state.turn++
	case !state.hedged && x.now-state.asked >= x.conf.Hedge:
		state.hedged = true
		return x.ask(slot, id, s, state.turn+1)
	default:
		return nil
	}
	x.timers.Set(timerOf(slot, s), x.now+backoff.Wait(x.conf, state.try, draw))
	return x.ask(slot, id, s, state.turn)
}

// firstLive returns the index of the first copy of a shard that is live, or 0.
func (x *Coord) firstLive(s int) int {
	live := slices.IndexFunc(x.copies[s], func(w int) bool { return x.leases.Live(w, x.now) })
	return max(live, 0)
}

// ask returns the letter to the copy of a shard whose turn it is, or none if that has no epoch.
func (x *Coord) ask(slot int, id int, s int, turn int) []api.Letter {
	worker := x.copies[s][turn%len(x.copies[s])]
	epoch := x.leases.Epoch(worker)
	if epoch == 0 {
		return nil
	}
	y := x.queries[id]
	after, received := y.merge.After(s)
	return []api.Letter{{To: worker, Msg: api.Ask{
		Slot: slot, Query: id, Shard: s, Seq: y.merge.Seq(s), Epoch: epoch,
		Text: y.told.Query.Text, K: y.told.Query.K, Batch: x.conf.Batch,
		First: !received, After: after,
	}}}
}
