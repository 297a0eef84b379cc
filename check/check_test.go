package check_test

import (
	"slices"
	"testing"

	"inkhorn/api"
	"inkhorn/check"
)

var words = []string{"a", "ab", "b", "c"}

func item(dist int, word string) api.Item {
	return api.Item{Dist: dist, Word: word}
}

// told is what may be told for the query that {0 a}, {1 ab} and {1 b} answer.
func told(items ...api.Item) api.Told {
	return api.Told{ID: 1, Query: api.Query{Text: "a", K: 1, N: 3}, Items: items}
}

func done(t api.Told) api.Told {
	t.Done = true
	return t
}

func cancelled(t api.Told) api.Told {
	t.Cancelled = true
	return t
}

func TestPrefixAndComplete(t *testing.T) {
	whole := []api.Item{item(0, "a"), item(1, "ab"), item(1, "b")}
	for n := range 4 {
		x := told(whole[:n]...)
		if !check.Prefix(words, x) || check.Complete(words, x) != (n == 3) {
			t.Errorf("P28.1: %v", x)
		}
	}
	for _, items := range [][]api.Item{{item(1, "ab")}, {item(0, "b")}, {item(0, "a"), item(1, "b")}, {item(0, "a"), item(0, "a")}, append(slices.Clone(whole), item(1, "c")), append(slices.Clone(whole), api.Item{})} {
		if x := told(items...); check.Prefix(words, x) || check.Complete(words, x) {
			t.Errorf("P28.1: %v", x)
		}
	}
	example := api.Told{Query: api.Query{Text: "a", K: 0, N: 1}}
	if !check.Prefix([]string{"a"}, example) || check.Complete([]string{"a"}, example) {
		t.Error("P28.1: the example")
	}
	invalid := api.Told{Query: api.Query{Text: "a", K: 9, N: 1}}
	if !check.Prefix(words, invalid) || !check.Complete(words, invalid) || !check.Right(words, done(invalid)) {
		t.Error("P28.1: a query that is not valid is answered by nothing")
	}
	invalid.Items = []api.Item{item(0, "a")}
	if check.Prefix(words, invalid) || check.Right(words, invalid) {
		t.Error("P28.1: items for a query that is not valid")
	}
}

func TestRight(t *testing.T) {
	part, whole, wrong := told(item(0, "a")), told(item(0, "a"), item(1, "ab"), item(1, "b")), told(item(1, "b"))
	for i, x := range []struct {
		told api.Told
		want bool
	}{
		{part, true}, {whole, true}, {wrong, false}, {cancelled(part), true}, {cancelled(whole), true}, {cancelled(wrong), false},
		{done(part), false}, {done(whole), true}, {done(wrong), false}, {done(cancelled(whole)), false}, {done(cancelled(part)), false}, {done(told()), false},
	} {
		if check.Right(words, x.told) != x.want {
			t.Errorf("P28.1: Right of %d: %v", i, x.told)
		}
	}
}

func TestLater(t *testing.T) {
	none, one, two, other := told(), told(item(7, "x")), told(item(7, "x"), item(3, "\xff")), told(item(7, "y"))
	for i, x := range []struct {
		a, b api.Told
		want bool
	}{
		{none, none, true}, {none, two, true}, {one, two, true}, {two, one, false}, {other, two, false}, {one, other, false},
		{one, done(two), true}, {one, cancelled(two), true}, {one, done(one), true},
		{done(two), done(two), true}, {cancelled(one), cancelled(one), true}, {done(one), done(two), false}, {cancelled(one), cancelled(two), false},
		{done(one), one, false}, {cancelled(one), one, false}, {done(one), cancelled(one), false}, {done(one), done(cancelled(one)), false}, {cancelled(one), done(cancelled(one)), false},
		{done(cancelled(one)), done(cancelled(one)), true}, {done(two), done(one), false},
	} {
		if check.Later(x.a, x.b) != x.want {
			t.Errorf("P28.1: Later of %d: %v, %v", i, x.a, x.b)
		}
	}
	for _, change := range []func(b *api.Told){
		func(b *api.Told) { b.ID = 2 }, func(b *api.Told) { b.Query.Text = "b" }, func(b *api.Told) { b.Query.K = 0 }, func(b *api.Told) { b.Query.N = 2 },
	} {
		b := one
		change(&b)
		if check.Later(one, b) {
			t.Errorf("P28.1: Later of another query: %v", b)
		}
	}
}
