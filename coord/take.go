package coord

import (
	"slices"

	"inkhorn/api"
	"inkhorn/msg"
	"inkhorn/span"
)

// Take processes a message and returns letters.
func (x *Coord) Take(m any) []api.Letter {
	if x == nil {
		return nil
	}
	return x.process(m)
}

func (x *Coord) process(m any) []api.Letter {
	if h, ok := m.(api.Hello); ok {
		return x.greeted(h)
	}
	if r, ok := m.(api.Reply); ok && x.considered(r) {
		return x.replied(r)
	}
	return nil
}

func (x *Coord) greeted(h api.Hello) []api.Letter {
	epoch, wrong := x.leases.Hello(h.Worker, h.Life, x.now)
	if wrong != api.OK {
		return nil
	}
	return []api.Letter{{To: h.Worker, Msg: api.Grant{Worker: h.Worker, Life: h.Life, Epoch: epoch}}}
}

// considered reports whether a reply belongs to a query that waits for it. Only such a reply counts as a sign of life.
func (x *Coord) considered(r api.Reply) bool {
	if !msg.May(r) {
		return false
	}
	id, ok := x.slots.At(r.Slot)
	if !ok || id != r.Query {
		return false
	}
	if !span.In(r.Shard, 0, len(x.copies)-1) || !slices.Contains(x.copies[r.Shard], r.Worker) {
		return false
	}
	most := x.queries[id].told.Query.K
	if slices.ContainsFunc(r.Items, func(i api.Item) bool { return i.Dist > most }) {
		return false
	}
	return x.leases.Seen(r.Worker, r.Epoch, x.now)
}

func (x *Coord) replied(r api.Reply) []api.Letter {
	if !x.queries[r.Query].merge.Put(r.Shard, r.Seq, r.Items, r.End) {
		return nil
	}
	x.timers.Cancel(timerOf(r.Slot, r.Shard))
	return x.advance(r.Query)
}
