package msg

import (
	"inkhorn/api"
	"inkhorn/rank"
	"inkhorn/span"
	"inkhorn/text"
)

const mostNumber = 1<<31 - 1

func valid(m any) bool {
	if h, ok := m.(api.Hello); ok {
		return isWorker(h.Worker) && isNumber(h.Life)
	}
	if g, ok := m.(api.Grant); ok {
		return isWorker(g.Worker) && isNumber(g.Life) && isNumber(g.Epoch)
	}
	if a, ok := m.(api.Ask); ok {
		return isSlot(a.Slot) && isNumber(a.Query) && isShard(a.Shard) && isNumber(a.Seq) && isNumber(a.Epoch) &&
			text.Asked(a.Text) && isDist(a.K) && span.In(a.Batch, 1, api.MaxBatch) && validAfter(a.First, a.After)
	}
	if r, ok := m.(api.Reply); ok {
		return isSlot(r.Slot) && isNumber(r.Query) && isShard(r.Shard) && isNumber(r.Seq) &&
			isWorker(r.Worker) && isNumber(r.Epoch) && validItems(r.Items)
	}
	if s, ok := m.(api.Stop); ok {
		return isSlot(s.Slot) && isNumber(s.Query)
	}
	return false
}

func validAfter(first bool, after api.Item) bool {
	if first {
		return after == api.Item{}
	}
	return validItem(after)
}

func validItems(items []api.Item) bool {
	if len(items) > api.MaxBatch {
		return false
	}
	for i, item := range items {
		if !validItem(item) || i > 0 && !rank.Less(items[i-1], item) {
			return false
		}
	}
	return true
}

func validItem(item api.Item) bool {
	return isDist(item.Dist) && text.Word(item.Word)
}

func isNumber(n int) bool { return span.In(n, 0, mostNumber) }

func isWorker(n int) bool { return span.In(n, 1, api.MaxWorkers) }

func isSlot(n int) bool { return span.In(n, 0, api.MaxSlots-1) }

func isShard(n int) bool { return span.In(n, 0, api.MaxShards-1) }

func isDist(n int) bool { return span.In(n, 0, api.MaxK) }
