package trace_test

import (
	"math"
	"reflect"
	"slices"
	"testing"

	"inkhorn/api"
	"inkhorn/trace"
)

func records() []api.Rec {
	return []api.Rec{
		{Verdict: api.Accepted, ID: 4, Got: -1, Sent: []api.Sent{{ID: 7, From: 0, To: 1}, {ID: 2, From: 0, To: 2}, {ID: 5, From: 1, To: 0}}},
		{Verdict: api.Busy, Got: -1},
		{Got: 7, Sent: []api.Sent{{ID: 9, From: 1, To: 0}}, Lost: []int{9}},
		{Verdict: api.Invalid, Got: -1, Lost: []int{3, 3}},
		{Verdict: api.Accepted, ID: 1, Got: 0},
		{Verdict: api.Invalid, Got: -7, Sent: []api.Sent{{ID: 5, From: 2, To: 1}, {ID: 0, From: 1, To: 1}, {ID: -1, From: 3, To: 4}}},
		{Verdict: api.Invalid, Got: math.MinInt},
		{Verdict: 9, ID: 8, Got: -1},
	}
}

func TestOf(t *testing.T) {
	want := trace.Sum{Sent: 7, Got: 2, Lost: 3, Accepted: 2, Busy: 1, Invalid: 3}
	if got := trace.Of(records()); got != want {
		t.Errorf("P26.1: Of = %v, not %v", got, want)
	}
	if got := trace.Of(nil); got != (trace.Sum{}) {
		t.Errorf("P26.1: Of nothing = %v", got)
	}
}

func TestAsked(t *testing.T) {
	if got := trace.Asked(records()); !slices.Equal(got, []int{4, 1}) {
		t.Errorf("P26.1: Asked = %v", got)
	}
	if got := trace.Asked(nil); len(got) != 0 {
		t.Errorf("P26.1: Asked of nothing = %v", got)
	}
}

func TestPending(t *testing.T) {
	// 0 was received, 7 and 9 were heard of; -1 was sent, and a Got of -1 says that nothing was received.
	if got := trace.Pending(records()); !slices.Equal(got, []int{-1, 2, 5}) {
		t.Errorf("P26.1: Pending = %v", got)
	}
	example := []api.Rec{{Got: -1, Sent: []api.Sent{{ID: 0, From: 1}, {ID: 1, From: 2}}}, {Got: 0}}
	if got := trace.Pending(example); !slices.Equal(got, []int{1}) {
		t.Errorf("P26.1: Pending = %v", got)
	}
	both := []api.Rec{{Got: -1, Sent: []api.Sent{{ID: 4}, {ID: 6}}}, {Got: 4}, {Got: -1, Lost: []int{4}}}
	if got := trace.Pending(both); !slices.Equal(got, []int{6}) {
		t.Errorf("P26.1: Pending = %v", got)
	}
	early := []api.Rec{{Got: 3}, {Got: -1, Sent: []api.Sent{{ID: 3}, {ID: 2}, {ID: 1}}}, {Got: -1, Lost: []int{1}}}
	if got := trace.Pending(early); !slices.Equal(got, []int{2}) {
		t.Errorf("P26.1: Pending = %v", got)
	}
}

func TestBetween(t *testing.T) {
	for _, x := range []struct {
		a, b int
		want []int
	}{{0, 1, []int{7, 5, 9}}, {1, 0, []int{7, 5, 9}}, {0, 2, []int{2}}, {1, 2, []int{5}}, {1, 1, []int{0}}, {0, 0, nil}, {4, 3, []int{-1}}, {-1, 5, nil}} {
		if got := trace.Between(records(), x.a, x.b); !slices.Equal(got, x.want) {
			t.Errorf("P26.1: Between(%d, %d) = %v", x.a, x.b, got)
		}
	}
}

func TestArgumentsStay(t *testing.T) {
	recs := records()
	trace.Of(recs)
	trace.Asked(recs)
	trace.Pending(recs)
	trace.Between(recs, 0, 1)
	if !reflect.DeepEqual(recs, records()) {
		t.Error("R4: the records were changed")
	}
}
