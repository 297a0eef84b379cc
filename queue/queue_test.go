package queue_test

import (
	"math"
	"math/rand/v2"
	"slices"
	"testing"

	"inkhorn/api"
	"inkhorn/queue"
)

func ask(slot int, shard int, query int, seq int) api.Ask {
	return api.Ask{Slot: slot, Shard: shard, Query: query, Seq: seq}
}

func TestExample(t *testing.T) {
	q := queue.New()
	if q.Len() != 0 || len(q.All()) != 0 || !q.Push(ask(0, 0, 3, 1)) || q.Push(ask(0, 0, 3, 0)) || !q.Push(ask(0, 0, 4, 0)) || q.Len() != 1 {
		t.Error("P20.1: the example")
	}
	if a, ok := q.Pop(); a != ask(0, 0, 4, 0) || !ok {
		t.Errorf("P20.1: Pop: %v, %v", a, ok)
	}
	if a, ok := q.Pop(); a != (api.Ask{}) || ok || q.Len() != 0 {
		t.Errorf("P20.1: Pop of nothing: %v, %v", a, ok)
	}
}

func TestPush(t *testing.T) {
	q := queue.New()
	for _, x := range [][2]int{{-1, 0}, {4, 0}, {0, -1}, {0, 6}, {math.MinInt, 0}, {0, math.MaxInt}} {
		if q.Push(ask(x[0], x[1], 1, 1)) || q.Len() != 0 {
			t.Errorf("P20.1: Push for slot %d, shard %d", x[0], x[1])
		}
	}
	first, second := ask(3, 5, 7, 2), ask(0, 5, 1, 0)
	q.Push(first)
	q.Push(second)
	if q.Push(ask(3, 5, 6, 9)) || q.Push(ask(3, 5, 7, 1)) || !slices.Equal(q.All(), []api.Ask{first, second}) {
		t.Errorf("P20.1: an older request: %v", q.All())
	}
	same := first
	same.Text = "x"
	if !q.Push(same) || !slices.Equal(q.All(), []api.Ask{same, second}) {
		t.Errorf("P20.1: the same request again: %v", q.All())
	}
	later := ask(3, 5, 8, 0)
	if !q.Push(later) || !slices.Equal(q.All(), []api.Ask{later, second}) {
		t.Errorf("P20.1: a later request: %v", q.All())
	}
}

func TestStop(t *testing.T) {
	q := queue.New()
	all := []api.Ask{ask(1, 0, 5, 0), ask(0, 0, 5, 0), ask(1, 1, 6, 0), ask(1, 2, 4, 0), ask(2, 2, 4, 0)}
	for _, a := range all {
		q.Push(a)
	}
	if q.Stop(1, 3) != 0 || q.Stop(3, 99) != 0 || q.Stop(-1, 99) != 0 || q.Len() != 5 {
		t.Error("P20.1: Stop of nothing")
	}
	if n := q.Stop(1, 5); n != 2 || !slices.Equal(q.All(), []api.Ask{all[1], all[2], all[4]}) {
		t.Errorf("P20.1: Stop: %d, %v", n, q.All())
	}
	if !q.Push(ask(1, 0, 1, 0)) || q.Len() != 4 {
		t.Error("P20.1: Push after Stop")
	}
	if n := q.Stop(1, math.MaxInt); n != 2 || q.Len() != 2 {
		t.Errorf("P20.1: Stop of the rest: %d", n)
	}
}

func TestAgainstList(t *testing.T) {
	rng := rand.New(rand.NewPCG(20, 1))
	q := queue.New()
	var model []api.Ask
	for range 6000 {
		switch rng.IntN(8) {
		case 0:
			a, ok := q.Pop()
			if ok != (len(model) > 0) || ok && a != model[0] {
				t.Fatalf("P20.1: Pop: %v, %v", a, ok)
			}
			model = model[min(1, len(model)):]
		case 1:
			slot, query := rng.IntN(5), rng.IntN(4)
			rest := slices.DeleteFunc(slices.Clone(model), func(a api.Ask) bool { return a.Slot == slot && a.Query <= query })
			if n := q.Stop(slot, query); n != len(model)-len(rest) {
				t.Fatalf("P20.1: Stop: %d", n)
			}
			model = rest
		default:
			a := ask(rng.IntN(4), rng.IntN(6), rng.IntN(4), rng.IntN(3))
			i := slices.IndexFunc(model, func(b api.Ask) bool { return a.Slot == b.Slot && a.Shard == b.Shard })
			want := i < 0 || model[i].Query < a.Query || model[i].Query == a.Query && model[i].Seq <= a.Seq
			if want && i < 0 {
				model = append(model, a)
			} else if want {
				model[i] = a
			}
			if q.Push(a) != want {
				t.Fatalf("P20.1: Push(%v)", a)
			}
		}
		if !slices.Equal(q.All(), model) || q.Len() != len(model) {
			t.Fatalf("P20.1: All: %v, not %v", q.All(), model)
		}
		if q.Len() > api.MaxSlots*api.MaxShards {
			t.Fatalf("P20.2: %d requests", q.Len())
		}
	}
}

func TestAllIsFresh(t *testing.T) {
	q := queue.New()
	q.Push(ask(0, 0, 1, 1))
	q.All()[0] = ask(3, 3, 3, 3)
	if !slices.Equal(q.All(), []api.Ask{ask(0, 0, 1, 1)}) {
		t.Errorf("R4: All: %v", q.All())
	}
}

func TestNil(t *testing.T) {
	var q *queue.Queue
	a, ok := q.Pop()
	if q.Push(ask(0, 0, 1, 1)) || a != (api.Ask{}) || ok || q.Stop(0, 9) != 0 || q.Len() != 0 || q.All() != nil {
		t.Error("R3: a nil queue")
	}
}
