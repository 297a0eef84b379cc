package msg_test

import (
	"bytes"
	"math"
	"reflect"
	"strings"
	"testing"

	"inkhorn/api"
	"inkhorn/msg"
	"inkhorn/sum"
)

const most = 1<<31 - 1

// sealed returns bytes that have the right length at their beginning and the right checksum at their end.
func sealed(b ...byte) []byte {
	n := len(b) + 6
	b = append([]byte{byte(n >> 8), byte(n)}, b...)
	c := sum.Of(b)
	return append(b, byte(c>>24), byte(c>>16), byte(c>>8), byte(c))
}

func ask() api.Ask {
	return api.Ask{Slot: 3, Query: 258, Shard: 5, Seq: 1, Epoch: 2, Text: "aé", K: 4, Batch: 5, After: api.Item{Dist: 1, Word: "b"}}
}

func reply(items ...api.Item) api.Reply {
	return api.Reply{Slot: 1, Query: 2, Shard: 3, Seq: 4, Worker: 5, Epoch: 6, Items: items, End: true}
}

func valid() []any {
	first := ask()
	first.First, first.After = true, api.Item{}
	greatest := api.Ask{Slot: 3, Query: most, Shard: 5, Seq: most, Epoch: most, Text: strings.Repeat("\U0010ffff", 16), K: 4, Batch: 5, After: api.Item{Dist: 4, Word: strings.Repeat("\U0010ffff", 12)}}
	var items []api.Item
	for d := range 5 {
		items = append(items, api.Item{Dist: d, Word: strings.Repeat("\U0010ffff", 12)})
	}
	least := api.Ask{Batch: 1, First: true}
	return []any{
		api.Hello{Worker: 2, Life: 1}, api.Hello{Worker: 5, Life: most}, api.Hello{Worker: 1},
		api.Grant{Worker: 1, Life: 2, Epoch: 3}, api.Grant{Worker: 5, Life: most, Epoch: most},
		ask(), first, greatest, least,
		reply(), reply(api.Item{Word: "a"}), reply(api.Item{Word: "a"}, api.Item{Word: "b"}, api.Item{Dist: 1, Word: "a"}), reply(items...), api.Reply{Worker: 1},
		api.Stop{}, api.Stop{Slot: 3, Query: most},
	}
}

func invalid() []any {
	out := []any{
		nil, 7, "x", api.Item{}, []any{api.Stop{}}, func() {}, &api.Hello{Worker: 1}, &api.Ask{}, (*api.Stop)(nil), math.NaN(),
		api.Hello{}, api.Hello{Worker: 6}, api.Hello{Worker: -1}, api.Hello{Worker: 1, Life: -1}, api.Hello{Worker: 1, Life: most + 1},
		api.Grant{}, api.Grant{Worker: 6}, api.Grant{Worker: 1, Life: -1}, api.Grant{Worker: 1, Epoch: -1}, api.Grant{Worker: 1, Epoch: most + 1}, api.Grant{Worker: 1, Life: most + 1},
		api.Stop{Slot: -1}, api.Stop{Slot: 4}, api.Stop{Query: -1}, api.Stop{Query: most + 1},
	}
	for _, change := range []func(a *api.Ask){
		func(a *api.Ask) { a.Slot = -1 }, func(a *api.Ask) { a.Slot = 4 }, func(a *api.Ask) { a.Query = -1 }, func(a *api.Ask) { a.Query = most + 1 },
		func(a *api.Ask) { a.Shard = -1 }, func(a *api.Ask) { a.Shard = 6 }, func(a *api.Ask) { a.Seq = -1 }, func(a *api.Ask) { a.Seq = most + 1 },
		func(a *api.Ask) { a.Epoch = -1 }, func(a *api.Ask) { a.Epoch = most + 1 }, func(a *api.Ask) { a.Text = "\xff" }, func(a *api.Ask) { a.Text = strings.Repeat("a", 17) },
		func(a *api.Ask) { a.K = -1 }, func(a *api.Ask) { a.K = 5 }, func(a *api.Ask) { a.Batch = 0 }, func(a *api.Ask) { a.Batch = 6 },
		func(a *api.Ask) { a.First = true }, func(a *api.Ask) { a.First, a.After = true, api.Item{Dist: 1} }, func(a *api.Ask) { a.First, a.After = true, api.Item{Word: "a"} },
		func(a *api.Ask) { a.After = api.Item{} }, func(a *api.Ask) { a.After.Dist = -1 }, func(a *api.Ask) { a.After.Dist = 5 }, func(a *api.Ask) { a.After.Word = "\xff" }, func(a *api.Ask) { a.After.Word = strings.Repeat("a", 13) },
	} {
		a := ask()
		change(&a)
		out = append(out, a)
	}
	for _, change := range []func(r *api.Reply){
		func(r *api.Reply) { r.Slot = -1 }, func(r *api.Reply) { r.Slot = 4 }, func(r *api.Reply) { r.Query = -1 }, func(r *api.Reply) { r.Query = most + 1 },
		func(r *api.Reply) { r.Shard = -1 }, func(r *api.Reply) { r.Shard = 6 }, func(r *api.Reply) { r.Seq = -1 }, func(r *api.Reply) { r.Seq = most + 1 },
		func(r *api.Reply) { r.Worker = 0 }, func(r *api.Reply) { r.Worker = 6 }, func(r *api.Reply) { r.Epoch = -1 }, func(r *api.Reply) { r.Epoch = most + 1 },
		func(r *api.Reply) {
			r.Items = []api.Item{{Word: "a"}, {Word: "b"}, {Word: "c"}, {Word: "d"}, {Word: "e"}, {Word: "f"}}
		},
		func(r *api.Reply) { r.Items = []api.Item{{Dist: -1, Word: "a"}} }, func(r *api.Reply) { r.Items = []api.Item{{Dist: 5, Word: "a"}} }, func(r *api.Reply) { r.Items = []api.Item{{}} },
		func(r *api.Reply) { r.Items = []api.Item{{Word: "a"}, {Word: "a"}} }, func(r *api.Reply) { r.Items = []api.Item{{Word: "b"}, {Word: "a"}} }, func(r *api.Reply) { r.Items = []api.Item{{Dist: 1, Word: "a"}, {Word: "b"}} },
	} {
		r := reply()
		change(&r)
		out = append(out, r)
	}
	return out
}

func TestMayAndEncode(t *testing.T) {
	for _, m := range valid() {
		if b, wrong := msg.Encode(m); !msg.May(m) || wrong != api.OK || len(b) == 0 || len(b) > api.MaxFrame {
			t.Errorf("P15.1: %#v: %v, %d", m, b, wrong)
		}
	}
	for _, m := range invalid() {
		if b, wrong := msg.Encode(m); msg.May(m) || wrong != api.ErrArg || b != nil {
			t.Errorf("P15.1: %#v: %v, %d", m, b, wrong)
		}
	}
}

func TestKind(t *testing.T) {
	for want, m := range []any{nil, api.Hello{}, api.Grant{}, api.Ask{}, api.Reply{}, api.Stop{}} {
		if got := msg.Kind(m); got != want {
			t.Errorf("P15.1: Kind(%#v) = %d", m, got)
		}
	}
	for _, m := range []any{&api.Hello{}, &api.Reply{}, 3, api.Item{}, []byte{1}} {
		if got := msg.Kind(m); got != 0 {
			t.Errorf("P15.1: Kind(%#v) = %d", m, got)
		}
	}
}

func TestFrames(t *testing.T) {
	for _, x := range []struct {
		m    any
		want []byte
	}{
		{api.Hello{Worker: 2, Life: 1}, sealed(1, 0, 0, 0, 2, 0, 0, 0, 1)},
		{api.Grant{Worker: 2, Life: 1, Epoch: most}, sealed(2, 0, 0, 0, 2, 0, 0, 0, 1, 127, 255, 255, 255)},
		{ask(), sealed(3, 0, 0, 0, 3, 0, 0, 1, 2, 0, 0, 0, 5, 0, 0, 0, 1, 0, 0, 0, 2, 0, 3, 97, 0xc3, 0xa9, 4, 5, 0, 1, 0, 1, 98)},
		{api.Ask{Batch: 1, First: true}, sealed(3, 0, 0, 0, 0, 0, 0, 0, 0, 0, 0, 0, 0, 0, 0, 0, 0, 0, 0, 0, 0, 0, 0, 0, 1, 1, 0, 0, 0)},
		{reply(api.Item{Word: "a"}, api.Item{Dist: 2, Word: "b"}), sealed(4, 0, 0, 0, 1, 0, 0, 0, 2, 0, 0, 0, 3, 0, 0, 0, 4, 0, 0, 0, 5, 0, 0, 0, 6, 2, 0, 0, 1, 97, 2, 0, 1, 98, 1)},
		{api.Stop{Slot: 1, Query: 2}, sealed(5, 0, 0, 0, 1, 0, 0, 0, 2)},
	} {
		if got, _ := msg.Encode(x.m); !bytes.Equal(got, x.want) {
			t.Errorf("P15.1: Encode(%#v) = %v, not %v", x.m, got, x.want)
		}
	}
}

func TestDecodeErrors(t *testing.T) {
	hello, _ := msg.Encode(api.Hello{Worker: 2, Life: 1})
	wrongSum := bytes.Clone(hello)
	wrongSum[len(wrongSum)-1]++
	huge := sealed(make([]byte, 1019)...)
	for _, b := range [][]byte{nil, {0}, {0, 6, 0, 0, 0, 0}, hello[:14], append(bytes.Clone(hello), 0), huge, {0, 8, 1, 0, 0, 0, 0}, make([]byte, 1<<17)} {
		if m, wrong := msg.Decode(b); m != nil || wrong != api.ErrForm {
			t.Errorf("P15.1: Decode of %d bytes: %v, %d", len(b), m, wrong)
		}
	}
	longest := make([]byte, 1024)
	longest[0], longest[4] = 4, 1
	for _, b := range [][]byte{wrongSum, {0, 7, 1, 0, 0, 0, 0}, longest} {
		if m, wrong := msg.Decode(b); m != nil || wrong != api.ErrSum {
			t.Errorf("P15.1: Decode of %d bytes = %v, %d", len(b), m, wrong)
		}
	}
	for name, b := range map[string][]byte{
		"kind 0": sealed(0), "kind 6": sealed(6, 0, 0, 0, 1, 0, 0, 0, 2), "no fields": sealed(1), "a byte too few": sealed(5, 0, 0, 0, 1, 0, 0, 0), "a byte too many": sealed(5, 0, 0, 0, 1, 0, 0, 0, 2, 0),
		"no such slot": sealed(5, 0, 0, 0, 4, 0, 0, 0, 2), "a number too great": sealed(5, 0, 0, 0, 1, 128, 0, 0, 0), "no such worker": sealed(1, 0, 0, 0, 0, 0, 0, 0, 1),
		"a flag of 2":      sealed(3, 0, 0, 0, 0, 0, 0, 0, 0, 0, 0, 0, 0, 0, 0, 0, 0, 0, 0, 0, 0, 0, 0, 0, 1, 2, 0, 0, 0),
		"first, and after": sealed(3, 0, 0, 0, 0, 0, 0, 0, 0, 0, 0, 0, 0, 0, 0, 0, 0, 0, 0, 0, 0, 0, 0, 0, 1, 1, 0, 0, 1, 97),
		"text cut short":   sealed(3, 0, 0, 0, 0, 0, 0, 0, 0, 0, 0, 0, 0, 0, 0, 0, 0, 0, 0, 0, 0, 0, 99, 97),
		"items that fall":  sealed(4, 0, 0, 0, 1, 0, 0, 0, 2, 0, 0, 0, 3, 0, 0, 0, 4, 0, 0, 0, 5, 0, 0, 0, 6, 2, 2, 0, 1, 97, 1, 0, 1, 98, 1),
		"255 items":        sealed(4, 0, 0, 0, 1, 0, 0, 0, 2, 0, 0, 0, 3, 0, 0, 0, 4, 0, 0, 0, 5, 0, 0, 0, 6, 255, 1),
		"an end of 2":      sealed(4, 0, 0, 0, 1, 0, 0, 0, 2, 0, 0, 0, 3, 0, 0, 0, 4, 0, 0, 0, 5, 0, 0, 0, 6, 0, 2),
		"zeros":            sealed(make([]byte, 1018)...),
	} {
		if m, wrong := msg.Decode(b); m != nil || wrong != api.ErrForm {
			t.Errorf("P15.1: %s: %v, %d", name, m, wrong)
		}
	}
}

func TestAsk(t *testing.T) {
	if got := msg.Ask(ask()); got != ask() {
		t.Errorf("P15.2: Ask = %v", got)
	}
	for _, m := range []any{nil, 1, api.Reply{}, &api.Ask{}, api.Hello{}} {
		func() {
			defer func() {
				if _, ok := recover().(interface{ RuntimeError() }); !ok {
					t.Errorf("P15.2: Ask(%#v) did not panic as an assertion does", m)
				}
			}()
			msg.Ask(m)
		}()
	}
}

func TestRoundTrip(t *testing.T) {
	for _, m := range valid() {
		b, _ := msg.Encode(m)
		got, wrong := msg.Decode(b)
		if wrong != api.OK || !reflect.DeepEqual(got, m) {
			t.Errorf("P15.3: %#v became %#v, %d", m, got, wrong)
		}
		for i := range b {
			for _, x := range []byte{1, 2, 127, 128, 255} {
				changed := bytes.Clone(b)
				changed[i] ^= x
				if got, wrong := msg.Decode(changed); got != nil || wrong == api.OK {
					t.Fatalf("P15.3: byte %d of the frame of %#v by %d: %v", i, m, x, got)
				}
			}
		}
	}
}

func TestFreshFrames(t *testing.T) {
	r := reply(api.Item{Word: "a"}, api.Item{Word: "b"})
	b, _ := msg.Encode(r)
	m, _ := msg.Decode(b)
	for i := range b {
		b[i] = 0
	}
	if got, ok := m.(api.Reply); !ok || got.Items[1].Word != "b" || r.Items[0].Word != "a" {
		t.Errorf("R4: the message became %v", m)
	}
}
