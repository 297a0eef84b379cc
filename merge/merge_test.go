package merge_test

import (
	"math"
	"math/rand/v2"
	"slices"
	"testing"

	"inkhorn/api"
	"inkhorn/merge"
	"inkhorn/rank"
)

func open(t *testing.T, n int, least ...int) *merge.Merge {
	t.Helper()
	m, wrong := merge.New(least, n)
	if m == nil || wrong != api.OK {
		t.Fatalf("P22.1: New(%v, %d): %d", least, n, wrong)
	}
	return m
}

func item(dist int, word string) api.Item {
	return api.Item{Dist: dist, Word: word}
}

func tells(t *testing.T, m *merge.Merge, want ...api.Item) {
	t.Helper()
	if got := m.Tell(); !slices.Equal(got, want) {
		t.Errorf("P22.3: Tell = %v, not %v", got, want)
	}
}

func TestNew(t *testing.T) {
	for _, x := range []struct {
		least []int
		n     int
	}{{nil, 1}, {[]int{}, 1}, {make([]int, 7), 1}, {[]int{0}, 0}, {[]int{0}, 11}, {[]int{0}, -1}, {[]int{0}, math.MaxInt}} {
		if m, wrong := merge.New(x.least, x.n); m != nil || wrong != api.ErrArg {
			t.Errorf("P22.1: New(%v, %d): %d", x.least, x.n, wrong)
		}
	}
	m := open(t, 10, 0, -1, 3, math.MinInt, 0, 9)
	if !slices.Equal(m.Wants(), []int{0, 2, 4, 5}) || m.Done() || len(m.Told()) != 0 {
		t.Errorf("P22.1: Wants = %v", m.Wants())
	}
	for s := -1; s < 8; s++ {
		if i, ok := m.After(s); ok || i != (api.Item{}) || m.Seq(s) != 0 {
			t.Errorf("P22.1: shard %d of a new merge", s)
		}
	}
	none := open(t, 1, -1, -5)
	if !none.Done() || none.Wants() != nil || none.Put(0, 0, nil, true) || none.Tell() != nil {
		t.Error("P22.1: a merge of which all shards have ended")
	}
}

func TestExample(t *testing.T) {
	m := open(t, 3, 0, 0)
	if !m.Put(0, 0, []api.Item{item(0, "a"), item(2, "c")}, true) {
		t.Error("P22.2: the first batch")
	}
	tells(t, m)
	if !m.Put(1, 0, []api.Item{item(1, "b")}, false) {
		t.Error("P22.2: the second batch")
	}
	tells(t, m, item(0, "a"), item(1, "b"))
	if !slices.Equal(m.Wants(), []int{1}) || m.Seq(1) != 1 || m.Done() || !m.Put(1, 1, nil, true) {
		t.Error("P22.2: the third batch")
	}
	tells(t, m, item(2, "c"))
	if !m.Done() || !slices.Equal(m.Told(), []api.Item{item(0, "a"), item(1, "b"), item(2, "c")}) {
		t.Errorf("P22.3: Told = %v", m.Told())
	}
}

func TestPut(t *testing.T) {
	m := open(t, 10, 1, 0, -1)
	two := []api.Item{item(1, "a"), item(1, "b")}
	six := []api.Item{item(1, "a"), item(1, "b"), item(1, "c"), item(1, "d"), item(1, "e"), item(1, "f")}
	for name, ok := range map[string]bool{
		"no shard -1":       m.Put(-1, 0, two, false),
		"no shard 3":        m.Put(3, 0, two, false),
		"an ended shard":    m.Put(2, 0, two, true),
		"a later number":    m.Put(0, 1, two, false),
		"number -1":         m.Put(0, -1, two, false),
		"six items":         m.Put(0, 0, six, false),
		"equal items":       m.Put(0, 0, []api.Item{item(1, "a"), item(1, "a")}, false),
		"falling items":     m.Put(0, 0, []api.Item{item(2, "a"), item(1, "b")}, false),
		"below the least":   m.Put(0, 0, []api.Item{item(0, "a"), item(1, "b")}, false),
		"nothing at all":    m.Put(0, 0, nil, false),
		"below, at the end": m.Put(0, 0, []api.Item{item(0, "a")}, true),
	} {
		if ok {
			t.Errorf("P22.2: %s was taken", name)
		}
	}
	if m.Seq(0) != 0 || !slices.Equal(m.Wants(), []int{0, 1}) {
		t.Error("P22.2: what was not taken has an effect")
	}
	if !m.Put(0, 0, two, false) || m.Put(0, 1, []api.Item{item(3, "z")}, false) || !slices.Equal(m.Wants(), []int{1}) || m.Seq(0) != 1 {
		t.Error("P22.2: a batch while items are waiting")
	}
	if i, ok := m.After(0); i != item(1, "b") || !ok {
		t.Errorf("P22.1: After = %v, %v", i, ok)
	}
	tells(t, m)
	if !m.Put(1, 0, []api.Item{item(1, "c")}, true) {
		t.Error("P22.2: the last batch of a shard")
	}
	tells(t, m, two...)
	for _, bad := range []api.Item{item(1, "b"), item(1, "a")} {
		if m.Put(0, 1, []api.Item{bad, item(4, "z")}, false) {
			t.Errorf("P22.2: %v was taken behind {1 b}", bad)
		}
	}
	if m.Put(0, 0, []api.Item{item(2, "a")}, false) || !m.Put(0, 1, six[2:], false) {
		t.Error("P22.2: the next batch")
	}
	tells(t, m, item(1, "c"), item(1, "c"), item(1, "d"), item(1, "e"), item(1, "f"))
	if !m.Put(0, 2, nil, true) || !m.Done() || m.Seq(0) != 3 {
		t.Error("P22.2: an empty batch at the end")
	}
	if i, ok := m.After(0); i != item(1, "f") || !ok {
		t.Errorf("P22.1: After an empty batch = %v, %v", i, ok)
	}
}

func TestTell(t *testing.T) {
	m := open(t, 10, 0, 2)
	m.Put(0, 0, []api.Item{item(1, "x"), item(2, "a"), item(3, "q")}, false)
	tells(t, m, item(1, "x"))
	tells(t, m)
	m.Put(1, 0, []api.Item{item(2, "b")}, false)
	tells(t, m, item(2, "a"), item(2, "b"))
	m.Put(1, 1, []api.Item{item(3, "q")}, false)
	tells(t, m, item(3, "q"), item(3, "q"))
	if !slices.Equal(m.Wants(), []int{0, 1}) {
		t.Errorf("P22.1: Wants = %v", m.Wants())
	}
	m.Put(0, 1, []api.Item{item(3, "r")}, true)
	tells(t, m)
	m.Put(1, 2, nil, true)
	tells(t, m, item(3, "r"))
}

func TestDoneByNumber(t *testing.T) {
	m := open(t, 2, 0, 5)
	m.Put(0, 0, []api.Item{item(0, "a"), item(1, "a"), item(2, "a")}, false)
	tells(t, m, item(0, "a"), item(1, "a"))
	if !m.Done() || m.Wants() != nil || m.Put(1, 0, nil, true) || len(m.Told()) != 2 {
		t.Error("P22.3: a merge that has told enough")
	}
	tells(t, m)
}

// model is the chapter once more, word by word.
type model struct {
	n, told int
	least   []int
	ended   []bool
	last    []*api.Item
	waiting [][]api.Item
}

func (m *model) tell() []api.Item {
	var out []api.Item
	for m.told < m.n {
		at := -1
		for i, w := range m.waiting {
			if len(w) > 0 && (at < 0 || rank.Less(w[0], m.waiting[at][0])) {
				at = i
			}
		}
		if at < 0 {
			return out
		}
		c := m.waiting[at][0]
		for i, w := range m.waiting {
			if m.ended[i] || len(w) > 0 {
				continue
			}
			if m.last[i] != nil && !rank.Less(c, *m.last[i]) && c != *m.last[i] || m.last[i] == nil && c.Dist >= m.least[i] {
				return out
			}
		}
		m.waiting[at] = m.waiting[at][1:]
		m.told++
		out = append(out, c)
	}
	return out
}

func TestAgainstModel(t *testing.T) {
	rng := rand.New(rand.NewPCG(22, 1))
	for range 2000 {
		shards, n := 1+rng.IntN(6), 1+rng.IntN(10)
		var all []api.Item
		mod := &model{n: n}
		lists := make([][]api.Item, shards)
		for i := range shards {
			least := rng.IntN(5) - 1
			mod.least = append(mod.least, least)
			mod.ended = append(mod.ended, least < 0)
			for range rng.IntN(9) {
				if least >= 0 {
					lists[i] = append(lists[i], item(least+rng.IntN(3), string(rune('a'+rng.IntN(5)))))
				}
			}
			lists[i] = slices.Compact(rank.Sort(lists[i]))
			all = append(all, lists[i]...)
		}
		mod.last, mod.waiting = make([]*api.Item, shards), make([][]api.Item, shards)
		top := rank.Sort(all)
		top = top[:min(n, len(top))]
		m := open(t, n, mod.least...)
		for !m.Done() {
			wants := m.Wants()
			s := wants[rng.IntN(len(wants))]
			size := min(len(lists[s]), 1+rng.IntN(5))
			batch := lists[s][:size]
			lists[s] = lists[s][size:]
			end := len(lists[s]) == 0 && (size == 0 || rng.IntN(2) == 0)
			if !m.Put(s, m.Seq(s), batch, end) {
				t.Fatalf("P22.2: Put of %v", batch)
			}
			mod.ended[s] = end
			mod.waiting[s] = batch
			if size > 0 {
				mod.last[s] = &batch[size-1]
			}
			got, want := m.Tell(), mod.tell()
			if !slices.Equal(got, want) {
				t.Fatalf("P22.3: Tell = %v, not %v", got, want)
			}
			if told := m.Told(); len(told) > len(top) || !slices.Equal(told, top[:len(told)]) {
				t.Fatalf("P22.4: Told = %v of %v", told, top)
			}
		}
		if !slices.Equal(m.Told(), top) {
			t.Fatalf("P22.4: Told = %v, not %v", m.Told(), top)
		}
	}
}

func TestFreshItems(t *testing.T) {
	m := open(t, 5, 0)
	batch := []api.Item{item(0, "a"), item(0, "b"), item(0, "c")}
	m.Put(0, 0, batch, false)
	batch[0], batch[2] = item(9, "x"), item(9, "y")
	m.Tell()[0] = item(9, "z")
	m.Told()[1] = item(9, "z")
	if i, _ := m.After(0); i != item(0, "c") || !slices.Equal(m.Told(), []api.Item{item(0, "a"), item(0, "b"), item(0, "c")}) {
		t.Errorf("R4: Told = %v", m.Told())
	}
}

func TestNil(t *testing.T) {
	var m *merge.Merge
	i, ok := m.After(0)
	if m.Put(0, 0, nil, true) || m.Tell() != nil || m.Wants() != nil || m.Seq(0) != 0 || i != (api.Item{}) || ok || m.Done() || m.Told() != nil {
		t.Error("R3: a nil merge")
	}
}
