package net_test

import (
	"bytes"
	"math"
	"reflect"
	"testing"

	"inkhorn/api"
	"inkhorn/net"
)

func open(t *testing.T, most int) *net.Net {
	t.Helper()
	n, wrong := net.New(most)
	if n == nil || wrong != api.OK || n.Len() != 0 || len(n.List()) != 0 {
		t.Fatalf("P16.1: New(%d): %d", most, wrong)
	}
	return n
}

func TestNew(t *testing.T) {
	open(t, 1)
	open(t, 64)
	for _, most := range []int{0, -1, 65, math.MinInt, math.MaxInt} {
		if n, wrong := net.New(most); n != nil || wrong != api.ErrArg {
			t.Errorf("P16.1: New(%d): %d", most, wrong)
		}
	}
}

func TestExample(t *testing.T) {
	n := open(t, 2)
	for i, want := range []bool{true, true, false} {
		if id, ok := n.Send(1, 0, []byte{byte(i)}); id != i || ok != want {
			t.Errorf("P16.1: Send: %d, %v", id, ok)
		}
	}
	if id, ok := n.Drop(0); id != 0 || !ok {
		t.Errorf("P16.1: Drop: %d, %v", id, ok)
	}
	if id, ok := n.Send(2, 3, nil); id != 3 || !ok {
		t.Errorf("P16.1: Send: %d, %v", id, ok)
	}
	want := []api.Gram{{ID: 1, From: 1, To: 0, Frame: []byte{1}}, {ID: 3, From: 2, To: 3, Frame: nil}}
	got := n.List()
	if len(got) != 2 || !reflect.DeepEqual(got[0], want[0]) || got[1].ID != 3 || got[1].From != 2 || got[1].To != 3 || len(got[1].Frame) != 0 || n.Len() != 2 {
		t.Errorf("P16.1: List: %v", got)
	}
}

func fill(n *net.Net, count int) {
	for i := range count {
		n.Send(i, i+1, []byte{byte(i), 7})
	}
}

func ids(n *net.Net) []int {
	out := []int{}
	for _, g := range n.List() {
		out = append(out, g.ID)
	}
	return out
}

func TestDeliverAndDrop(t *testing.T) {
	n := open(t, 8)
	fill(n, 5)
	if g, ok := n.Deliver(1); !ok || !reflect.DeepEqual(g, api.Gram{ID: 1, From: 1, To: 2, Frame: []byte{1, 7}}) {
		t.Errorf("P16.1: Deliver: %v, %v", g, ok)
	}
	if id, ok := n.Drop(3); id != 4 || !ok {
		t.Errorf("P16.1: Drop: %d, %v", id, ok)
	}
	if got := ids(n); !reflect.DeepEqual(got, []int{0, 2, 3}) {
		t.Errorf("P16.1: what is left: %v", got)
	}
	for _, i := range []int{-1, 3, math.MinInt, math.MaxInt} {
		g, ok := n.Deliver(i)
		id, is := n.Drop(i)
		if ok || is || id != 0 || !reflect.DeepEqual(g, api.Gram{}) || n.Double(i) || n.Spoil(i, 0, 0) || n.Len() != 3 {
			t.Errorf("P16.1: index %d", i)
		}
	}
}

func TestDouble(t *testing.T) {
	n := open(t, 4)
	fill(n, 2)
	n.Spoil(0, 0, 0)
	if !n.Double(0) || !n.Double(1) || n.Double(0) {
		t.Error("P16.1: Double")
	}
	got := n.List()
	if !reflect.DeepEqual(got[2], got[0]) || !got[2].Spoilt || !reflect.DeepEqual(got[3], got[1]) || !reflect.DeepEqual(ids(n), []int{0, 1, 0, 1}) {
		t.Errorf("P16.1: List: %v", got)
	}
	if !n.Spoil(1, 1, 0) || n.List()[3].Spoilt || n.List()[3].Frame[1] != 7 {
		t.Error("P16.1: a copy is spoilt with the other one")
	}
	if id, ok := n.Send(1, 1, nil); id != 2 || ok {
		t.Errorf("P16.1: Send: %d, %v", id, ok)
	}
}

func TestSpoil(t *testing.T) {
	for _, x := range []struct {
		at, x int
		want  []byte
	}{{0, 0, []byte{4, 6, 7}}, {4, 1, []byte{5, 4, 7}}, {2, 254, []byte{5, 6, 248}}, {2, 255, []byte{5, 6, 6}}, {-1, -1, []byte{4, 6, 7}}, {math.MinInt, math.MinInt, []byte{5, 6, 134}}} {
		n := open(t, 4)
		n.Send(1, 0, []byte{5, 6, 7})
		if !n.Spoil(0, x.at, x.x) || n.Spoil(0, x.at, x.x) {
			t.Errorf("P16.1: Spoil(%d, %d)", x.at, x.x)
		}
		if g, _ := n.Deliver(0); !g.Spoilt || !bytes.Equal(g.Frame, x.want) {
			t.Errorf("P16.1: Spoil(%d, %d) left %v, not %v", x.at, x.x, g, x.want)
		}
	}
	n := open(t, 4)
	n.Send(1, 0, nil)
	if n.Spoil(0, 0, 0) || n.List()[0].Spoilt {
		t.Error("P16.1: Spoil of an empty frame")
	}
}

func TestFreshFrames(t *testing.T) {
	n := open(t, 4)
	frame := []byte{1, 2, 3}
	n.Send(1, 0, frame)
	n.Double(0)
	frame[0] = 9
	n.List()[0].Frame[0] = 9
	n.Spoil(0, 0, 0)
	g, _ := n.Deliver(0)
	g.Frame[1] = 9
	if rest, _ := n.Deliver(0); !bytes.Equal(rest.Frame, []byte{1, 2, 3}) || frame[1] != 2 {
		t.Errorf("R4: the other frame became %v", rest.Frame)
	}
}

func TestNil(t *testing.T) {
	var n *net.Net
	id, ok := n.Send(1, 0, []byte{1})
	g, is := n.Deliver(0)
	dropped, was := n.Drop(0)
	if id != 0 || ok || is || g.Frame != nil || dropped != 0 || was || n.Double(0) || n.Spoil(0, 0, 0) || n.Len() != 0 || n.List() != nil {
		t.Error("R3: a nil network")
	}
}
