package slots_test

import (
	"math"
	"math/rand/v2"
	"testing"

	"inkhorn/api"
	"inkhorn/slots"
)

func open(t *testing.T, most int) *slots.Slots {
	t.Helper()
	s, wrong := slots.New(most)
	if s == nil || wrong != api.OK || s.Count() != 0 || s.Last() != 0 {
		t.Fatalf("P23.1: New(%d): %d", most, wrong)
	}
	return s
}

func query(text string, k int, n int) api.Query {
	return api.Query{Text: text, K: k, N: n}
}

func submits(t *testing.T, s *slots.Slots, q api.Query, verdict int, id int, slot int) {
	t.Helper()
	if v, i, at := s.Submit(q); v != verdict || i != id || at != slot {
		t.Errorf("P23.1: Submit(%v) = %d, %d, %d, not %d, %d, %d", q, v, i, at, verdict, id, slot)
	}
}

func TestNew(t *testing.T) {
	open(t, 1)
	open(t, 4)
	for _, most := range []int{0, 5, -1, math.MinInt, math.MaxInt} {
		if s, wrong := slots.New(most); s != nil || wrong != api.ErrArg {
			t.Errorf("P23.1: New(%d): %d", most, wrong)
		}
	}
}

func TestExample(t *testing.T) {
	s := open(t, 1)
	submits(t, s, query("a", 1, 1), api.Accepted, 1, 0)
	submits(t, s, query("b", 1, 1), api.Busy, 0, 0)
	submits(t, s, query("b", 9, 1), api.Invalid, 0, 0)
	if !s.Free(1) || s.Free(1) || s.Last() != 1 || s.Count() != 0 {
		t.Error("P23.1: Free")
	}
	submits(t, s, query("b", 1, 1), api.Accepted, 2, 0)
}

func TestInvalid(t *testing.T) {
	s := open(t, 2)
	for _, q := range []api.Query{query("\xff", 1, 1), query("aaaaaaaaaaaaaaaaa", 1, 1), query("a", -1, 1), query("a", 5, 1), query("a", 1, 0), query("a", 1, 11)} {
		submits(t, s, q, api.Invalid, 0, 0)
	}
	if s.Count() != 0 || s.Last() != 0 {
		t.Error("P23.1: an invalid query took a slot or a number")
	}
}

func TestLeastFreeSlot(t *testing.T) {
	s := open(t, 4)
	for i := range 4 {
		submits(t, s, query("", 0, 1), api.Accepted, i+1, i)
	}
	submits(t, s, query("", 0, 1), api.Busy, 0, 0)
	s.Free(4)
	s.Free(2)
	if _, ok := s.Of(2); ok || s.Count() != 2 {
		t.Error("P23.1: a number whose slot was freed")
	}
	submits(t, s, query("", 0, 1), api.Accepted, 5, 1)
	submits(t, s, query("", 0, 1), api.Accepted, 6, 3)
	for slot, id := range []int{1, 5, 3, 6} {
		at, ok := s.At(slot)
		of, is := s.Of(id)
		if at != id || !ok || of != slot || !is {
			t.Errorf("P23.1: slot %d: %d, %v; number %d: %d, %v", slot, at, ok, id, of, is)
		}
	}
	for _, n := range []int{-1, 7, math.MinInt, math.MaxInt} {
		at, ok := s.At(n)
		of, is := s.Of(n)
		if at != 0 || ok || of != 0 || is || s.Free(n) {
			t.Errorf("P23.1: slot and number %d", n)
		}
	}
}

func TestNoSlotForTwo(t *testing.T) {
	rng := rand.New(rand.NewPCG(23, 1))
	s := open(t, 3)
	has := map[int]bool{}
	last := 0
	for range 4000 {
		if rng.IntN(2) == 0 {
			id := max(0, last-rng.IntN(6))
			if s.Free(id) != has[id] {
				t.Fatalf("P23.1: Free(%d)", id)
			}
			delete(has, id)
			continue
		}
		verdict, id, slot := s.Submit(query("a", 0, 1))
		if len(has) == 3 {
			if verdict != api.Busy || id != 0 || slot != 0 {
				t.Fatalf("P23.1: Submit = %d, %d, %d", verdict, id, slot)
			}
			continue
		}
		last++
		if verdict != api.Accepted || id != last || s.Last() != last {
			t.Fatalf("P23.1: Submit = %d, %d, %d", verdict, id, slot)
		}
		has[id] = true
		if at, ok := s.At(slot); at != id || !ok || s.Count() != len(has) {
			t.Fatalf("P23.1: At(%d) = %d, %v", slot, at, ok)
		}
	}
}

func TestNil(t *testing.T) {
	var s *slots.Slots
	verdict, id, slot := s.Submit(query("a", 1, 1))
	of, has := s.Of(1)
	at, is := s.At(0)
	if verdict != 0 || id != 0 || slot != 0 || s.Free(1) || of != 0 || has || at != 0 || is || s.Count() != 0 || s.Last() != 0 {
		t.Error("R3: nil slots")
	}
}
