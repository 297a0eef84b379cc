package disk_test

import (
	"bytes"
	"math"
	"testing"

	"inkhorn/api"
	"inkhorn/disk"
	"inkhorn/place"
)

func config() api.Config {
	return api.Config{
		Words: []string{"a", "ab", "abc", "b", "zz"}, Cuts: []api.Key{{Len: 2}, {Len: 3}},
		Workers: 3, Copies: 2, Slots: 2, Batch: 3, Lease: 20, Hedge: 5, First: 2, Cap: 8, Jitter: 1, Net: 32,
	}
}

func open(t *testing.T, worker int) *disk.Disk {
	t.Helper()
	d, wrong := disk.New(config(), worker)
	if d == nil || wrong != api.OK {
		t.Fatalf("P14.1: New: %d", wrong)
	}
	return d
}

func TestNew(t *testing.T) {
	bad := config()
	bad.Batch = 0
	if d, wrong := disk.New(bad, 1); d != nil || wrong != api.ErrArg {
		t.Errorf("P14.1: New of an invalid configuration: %d", wrong)
	}
	for _, worker := range []int{0, -1, 4, math.MaxInt, math.MinInt} {
		if d, wrong := disk.New(config(), worker); d != nil || wrong != api.ErrArg {
			t.Errorf("P14.1: New of worker %d: %d", worker, wrong)
		}
	}
}

func TestRead(t *testing.T) {
	for worker, keeps := range map[int][3]bool{1: {true, false, true}, 2: {true, true, false}, 3: {false, true, true}} {
		d := open(t, worker)
		for shard := -1; shard < 5; shard++ {
			b, wrong := d.Read(shard)
			if shard >= 0 && shard < 3 && keeps[shard] {
				want, _ := place.Image(config(), shard)
				if wrong != api.OK || !bytes.Equal(b, want) {
					t.Errorf("P14.1: Read of %d by %d: %v, %d", shard, worker, b, wrong)
				}
				continue
			}
			if b != nil || wrong != api.ErrNone || d.Rot(shard, 0, 0) != api.ErrNone || d.Mend(shard) != api.ErrNone || d.Rotten(shard) {
				t.Errorf("P14.1: shard %d of worker %d: %d", shard, worker, wrong)
			}
		}
	}
}

func TestRotAndMend(t *testing.T) {
	d := open(t, 1)
	original, _ := d.Read(0)
	n := len(original)
	for _, x := range []struct{ at, x, where, mask int }{
		{0, 0, 0, 1}, {5, 7, 5, 8}, {n, 254, 0, 255}, {n + 3, 255, 3, 1}, {2, 510, 2, 1},
		{-1, -1, int(uint64(math.MaxUint64) % uint64(n)), 1}, {math.MinInt, math.MinInt, int(uint64(1<<63) % uint64(n)), int(1 + uint64(1<<63)%255)},
	} {
		if wrong := d.Rot(0, x.at, x.x); wrong != api.OK {
			t.Fatalf("P14.1: Rot: %d", wrong)
		}
		want := bytes.Clone(original)
		want[x.where] ^= byte(x.mask)
		if got, _ := d.Read(0); !bytes.Equal(got, want) || !d.Rotten(0) || d.Rotten(2) {
			t.Errorf("P14.1: Rot(%d, %d) left %v, not %v", x.at, x.x, got, want)
		}
	}
	if wrong := d.Mend(0); wrong != api.OK || d.Rotten(0) {
		t.Errorf("P14.1: Mend: %d", wrong)
	}
	if got, _ := d.Read(0); !bytes.Equal(got, original) {
		t.Errorf("P14.1: Mend left %v", got)
	}
	got, _ := d.Read(0)
	got[0] ^= 255
	if d.Rotten(0) {
		t.Error("R4: the disk was changed from outside")
	}
	d.Rot(0, 0, 0)
	got, _ = d.Read(0)
	got[0] ^= 1
	if !d.Rotten(0) || d.Mend(0) != api.OK || d.Rotten(0) {
		t.Error("R4: the disk was changed from outside")
	}
}

func TestLives(t *testing.T) {
	d := open(t, 2)
	if d.Life() != 0 || d.Born() != 1 || d.Born() != 2 || d.Life() != 2 {
		t.Error("P14.1: Born and Life")
	}
}

func TestNil(t *testing.T) {
	var d *disk.Disk
	b, wrong := d.Read(0)
	if b != nil || wrong != api.ErrNil || d.Rot(0, 0, 0) != api.ErrNil || d.Mend(0) != api.ErrNil || d.Rotten(0) || d.Life() != 0 || d.Born() != 0 {
		t.Error("R3: a nil disk")
	}
}
