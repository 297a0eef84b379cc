package lease_test

import (
	"math"
	"math/rand/v2"
	"testing"

	"inkhorn/api"
	"inkhorn/lease"
)

func open(t *testing.T, workers int, term int) *lease.Table {
	t.Helper()
	table, wrong := lease.New(workers, term)
	if table == nil || wrong != api.OK {
		t.Fatalf("P19.1: New(%d, %d): %d", workers, term, wrong)
	}
	return table
}

func hello(t *testing.T, table *lease.Table, worker int, life int, now int, want int, wantWrong api.Errno) {
	t.Helper()
	if epoch, wrong := table.Hello(worker, life, now); epoch != want || wrong != wantWrong {
		t.Errorf("P19.1: Hello(%d, %d, %d) = %d, %d, not %d, %d", worker, life, now, epoch, wrong, want, wantWrong)
	}
}

func TestNew(t *testing.T) {
	open(t, 1, 1)
	table := open(t, 5, 1000)
	for worker := -1; worker < 8; worker++ {
		if table.Epoch(worker) != 0 || table.Life(worker) != 0 || table.Live(worker, 0) || table.Live(worker, -5) || table.Seen(worker, 0, 0) {
			t.Errorf("P19.1: worker %d of a new table", worker)
		}
	}
	for _, x := range [][2]int{{0, 5}, {6, 5}, {-1, 5}, {2, 0}, {2, 1001}, {2, math.MinInt}, {math.MaxInt, 5}} {
		if table, wrong := lease.New(x[0], x[1]); table != nil || wrong != api.ErrArg {
			t.Errorf("P19.1: New(%d, %d): %d", x[0], x[1], wrong)
		}
	}
}

func TestExample(t *testing.T) {
	table := open(t, 2, 5)
	hello(t, table, 1, 1, 0, 1, api.OK)
	if !table.Live(1, 5) || table.Live(1, 6) || !table.Live(1, 0) || !table.Live(1, -9) || table.Live(2, 0) {
		t.Error("P19.1: Live")
	}
	hello(t, table, 1, 2, 6, 2, api.OK)
	hello(t, table, 1, 1, 7, 0, api.ErrNone)
	if table.Epoch(1) != 2 || table.Life(1) != 2 || table.Live(1, 12) || !table.Live(1, 11) {
		t.Error("P19.1: what an older life has changed")
	}
	hello(t, table, 1, 2, 8, 2, api.OK)
	if !table.Live(1, 13) || table.Live(1, 14) {
		t.Error("P19.1: the same life again")
	}
	hello(t, table, 1, 99, 3, 3, api.OK)
	if table.Life(1) != 99 || !table.Live(1, 13) || table.Live(1, 14) {
		t.Error("P19.1: an earlier time shortens the lease")
	}
}

func TestHelloErrors(t *testing.T) {
	table := open(t, 2, 5)
	for _, x := range [][3]int{{0, 1, 0}, {3, 1, 0}, {-1, 1, 0}, {1, 0, 0}, {1, -1, 0}, {1, 1 << 31, 0}, {1, 1, -1}, {1, 1, api.MaxTime + 1}, {math.MaxInt, 1, 0}} {
		hello(t, table, x[0], x[1], x[2], 0, api.ErrArg)
	}
	if table.Epoch(1) != 0 || table.Life(1) != 0 {
		t.Error("R5: an error has changed the table")
	}
	hello(t, table, 2, 1<<31-1, api.MaxTime, 1, api.OK)
	if !table.Live(2, api.MaxTime+5) || table.Live(2, api.MaxTime+6) {
		t.Error("P19.1: a lease at the last moment")
	}
	hello(t, table, 2, 0, 0, 0, api.ErrArg)
	hello(t, table, 2, 1, -1, 0, api.ErrArg)
}

func TestSeen(t *testing.T) {
	table := open(t, 2, 5)
	table.Hello(1, 7, 0)
	for _, x := range [][3]int{{0, 1, 1}, {3, 1, 1}, {2, 0, 1}, {2, 1, 1}, {1, 0, 1}, {1, 2, 1}, {1, 7, 1}, {1, 1, -1}, {1, 1, api.MaxTime + 1}} {
		if table.Seen(x[0], x[1], x[2]) {
			t.Errorf("P19.1: Seen(%d, %d, %d)", x[0], x[1], x[2])
		}
	}
	if table.Live(1, 6) {
		t.Error("P19.1: a lease that was not to be extended")
	}
	if !table.Seen(1, 1, 3) || !table.Live(1, 8) || table.Live(1, 9) || !table.Seen(1, 1, 0) || !table.Live(1, 8) || table.Epoch(1) != 1 || table.Life(1) != 7 {
		t.Error("P19.1: Seen")
	}
}

func TestEpochsRiseWithLives(t *testing.T) {
	rng := rand.New(rand.NewPCG(19, 1))
	table := open(t, 3, 9)
	for now := range 3000 {
		worker := 1 + rng.IntN(3)
		epoch, life := table.Epoch(worker), table.Life(worker)
		table.Hello(worker, rng.IntN(life+3)-1, now)
		table.Seen(worker, rng.IntN(epoch+2), now)
		if e, l := table.Epoch(worker), table.Life(worker); e < epoch || (e > epoch) != (l > life) || e > epoch+1 {
			t.Fatalf("P19.2: epoch %d, life %d became %d, %d", epoch, life, e, l)
		}
	}
}

func TestNil(t *testing.T) {
	var table *lease.Table
	epoch, wrong := table.Hello(1, 1, 0)
	if epoch != 0 || wrong != api.ErrNil || table.Seen(1, 1, 0) || table.Live(1, 0) || table.Epoch(1) != 0 || table.Life(1) != 0 {
		t.Error("R3: a nil table")
	}
}
