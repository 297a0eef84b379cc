package msg

import (
	"inkhorn/api"
	"inkhorn/code"
	"inkhorn/wire"
)

const (
	numberBytes = 4
	smallBytes  = 1 // of K, Batch, Dist, a bool, and the number of items
)

// frameOf returns the frame of a valid message.
func frameOf(m any) []byte {
	fields := fieldsOf(m)
	frame := code.Put(nil, leastFrame+len(fields), lengthBytes)
	frame = code.Put(frame, kindOf(m), kindBytes)
	return wire.Seal(append(frame, fields...))
}

// fieldsOf writes the fields down in the order in which package api declares them.
func fieldsOf(m any) []byte {
	switch m := m.(type) {
	case api.Hello:
		return numbers(m.Worker, m.Life)
	case api.Grant:
		return numbers(m.Worker, m.Life, m.Epoch)
	case api.Ask:
		b := numbers(m.Slot, m.Query, m.Shard, m.Seq, m.Epoch)
		b = code.PutText(b, m.Text)
		b = code.Put(b, m.K, smallBytes)
		b = code.Put(b, m.Batch, smallBytes)
		b = putFlag(b, m.First)
		return putItem(b, m.After)
	case api.Reply:
		b := numbers(m.Slot, m.Query, m.Shard, m.Seq, m.Worker, m.Epoch)
		b = code.Put(b, len(m.Items), smallBytes)
		for _, item := range m.Items {
			b = putItem(b, item)
		}
		return putFlag(b, m.End)
	case api.Stop:
		return numbers(m.Slot, m.Query)
	}
	return nil
}

func numbers(ns ...int) []byte {
	var b []byte
	for _, n := range ns {
		b = code.Put(b, n, numberBytes)
	}
	return b
}

func putFlag(b []byte, flag bool) []byte {
	if flag {
		return code.Put(b, 1, smallBytes)
	}
	return code.Put(b, 0, smallBytes)
}

func putItem(b []byte, item api.Item) []byte {
	return code.PutText(code.Put(b, item.Dist, smallBytes), item.Word)
}

// read returns the message that b, a kind and its fields, seems to hold, or nil for an unknown kind.
// The fields of a literal are read in the order in which they stand there.
func read(b []byte) any {
	r := wire.Read(b)
	kind := r.Num(kindBytes)
	switch kind {
	case kindHello:
		return api.Hello{Worker: r.Num(numberBytes), Life: r.Num(numberBytes)}
	case kindGrant:
		return api.Grant{Worker: r.Num(numberBytes), Life: r.Num(numberBytes), Epoch: r.Num(numberBytes)}
	case kindAsk:
		return readAsk(r)
	case kindReply:
		return readReply(r)
	case kindStop:
		return api.Stop{Slot: r.Num(numberBytes), Query: r.Num(numberBytes)}
	}
	return nil
}

func readAsk(r *wire.Reader) api.Ask {
	return api.Ask{
		Slot:  r.Num(numberBytes),
		Query: r.Num(numberBytes),
		Shard: r.Num(numberBytes),
		Seq:   r.Num(numberBytes),
		Epoch: r.Num(numberBytes),
		Text:  r.Text(),
		K:     r.Num(smallBytes),
		Batch: r.Num(smallBytes),
		First: readFlag(r),
		After: readItem(r),
	}
}

func readReply(r *wire.Reader) api.Reply {
	return api.Reply{
		Slot:   r.Num(numberBytes),
		Query:  r.Num(numberBytes),
		Shard:  r.Num(numberBytes),
		Seq:    r.Num(numberBytes),
		Worker: r.Num(numberBytes),
		Epoch:  r.Num(numberBytes),
		Items:  readItems(r),
		End:    readFlag(r),
	}
}

func readItems(r *wire.Reader) []api.Item {
	var items []api.Item
	for range r.Num(smallBytes) {
		items = append(items, readItem(r))
	}
	return items
}

func readFlag(r *wire.Reader) bool {
	return r.Num(smallBytes) == 1
}

func readItem(r *wire.Reader) api.Item {
	return api.Item{Dist: r.Num(smallBytes), Word: r.Text()}
}
