package script_test

import (
	"math"
	"math/rand/v2"
	"reflect"
	"strings"
	"testing"

	"inkhorn/api"
	"inkhorn/script"
)

func TestQuote(t *testing.T) {
	for s, want := range map[string]string{
		"": `""`, "a b": `"a\20b"`, "!~": `"!~"`, `"`: `"\22"`, `\`: `"\5c"`, "\x00\n\x1f\x7f": `"\00\0a\1f\7f"`, "é": `"\c3\a9"`, "\xff": `"\ff"`, "'#[]": `"'#[]"`,
	} {
		if got := script.Quote(s); got != want {
			t.Errorf("P29.1: Quote(%q) = %s, not %s", s, got, want)
		}
		if got, ok := script.Unquote(want); got != s || !ok {
			t.Errorf("P29.1: Unquote(%s) = %q, %v", want, got, ok)
		}
	}
	for b := range 256 {
		s := "x" + string([]byte{byte(b), byte(b)}) + "y"
		if got, ok := script.Unquote(script.Quote(s)); got != s || !ok {
			t.Errorf("P29.2: byte %d became %q", b, got)
		}
	}
}

func TestUnquoteErrors(t *testing.T) {
	for _, s := range []string{
		"", `"`, `a`, `"a`, `a"`, `"a"b`, ` "a"`, `"""`, `"\"`, `"\2"`, `"\20`, `"a b"`, `"\61"`, `"\5C"`, `"\C3"`, `"\c3\A9"`, `"\g0"`, `"\0g"`, "\"\n\"", `"\\"`, `"\""`,
		"\"é\"", "\"\xff\"", `"\é"`, `"\2é"`, "\"\x7f\"", "\"\x00\"", "'a'", `"\ 20"`,
	} {
		if got, ok := script.Unquote(s); got != "" || ok {
			t.Errorf("P29.1: Unquote(%q) = %q, %v", s, got, ok)
		}
	}
}

func config() api.Config {
	return api.Config{
		Words: []string{"a", "é b", ""}, Cuts: []api.Key{{Len: 2, Text: "x"}, {Len: 0}},
		Workers: 1, Copies: 2, Slots: 3, Batch: 4, Lease: 5, Hedge: 6, First: 7, Cap: 8, Jitter: 0, Net: 999999,
	}
}

func events() []api.Event {
	return []api.Event{
		{Kind: api.EvSubmit, Query: api.Query{Text: "a\nb", K: 1, N: 999999}},
		{Kind: api.EvWake, Node: 1, At: 2, X: 3},
		{Kind: 0},
		{Kind: 999999, X: 999999},
		{Kind: api.EvSubmit},
	}
}

const printed = `word "a"
word "\c3\a9\20b"
word ""
cut 2 "x"
cut 0 ""
set 1 2 3 4 5 6 7 8 0 999999
ask "a\0ab" 1 999999
ev 4 1 2 3
ev 0 0 0 0
ev 999999 0 0 999999
ask "" 0 0
`

func TestPrint(t *testing.T) {
	c, es := config(), events()
	s, wrong := script.Print(c, es)
	if s != printed || wrong != api.OK {
		t.Errorf("P29.1: Print = %s, %d", s, wrong)
	}
	if !reflect.DeepEqual(c, config()) || !reflect.DeepEqual(es, events()) {
		t.Error("R4: an argument was changed")
	}
	if s, wrong := script.Print(api.Config{}, nil); s != "set 0 0 0 0 0 0 0 0 0 0\n" || wrong != api.OK {
		t.Errorf("P29.1: Print of nothing = %s, %d", s, wrong)
	}
}

func TestPrintErrors(t *testing.T) {
	for _, n := range []int{-1, 1000000, math.MinInt, math.MaxInt} {
		for i, change := range []func(c *api.Config, e *api.Event){
			func(c *api.Config, e *api.Event) { c.Cuts[1].Len = n },
			func(c *api.Config, e *api.Event) { c.Workers = n },
			func(c *api.Config, e *api.Event) { c.Copies = n },
			func(c *api.Config, e *api.Event) { c.Slots = n },
			func(c *api.Config, e *api.Event) { c.Batch = n },
			func(c *api.Config, e *api.Event) { c.Lease = n },
			func(c *api.Config, e *api.Event) { c.Hedge = n },
			func(c *api.Config, e *api.Event) { c.First = n },
			func(c *api.Config, e *api.Event) { c.Cap = n },
			func(c *api.Config, e *api.Event) { c.Jitter = n },
			func(c *api.Config, e *api.Event) { c.Net = n },
			func(c *api.Config, e *api.Event) { e.Kind = n },
			func(c *api.Config, e *api.Event) { e.Node = n },
			func(c *api.Config, e *api.Event) { e.At = n },
			func(c *api.Config, e *api.Event) { e.X = n },
			func(c *api.Config, e *api.Event) { *e = api.Event{Kind: api.EvSubmit, Query: api.Query{K: n}} },
			func(c *api.Config, e *api.Event) { *e = api.Event{Kind: api.EvSubmit, Query: api.Query{N: n}} },
			func(c *api.Config, e *api.Event) { *e = api.Event{Kind: api.EvSubmit, Node: n} },
		} {
			c, es := config(), events()
			change(&c, &es[1])
			if s, wrong := script.Print(c, es); s != "" || wrong != api.ErrArg {
				t.Errorf("P29.1: Print with %d in place %d: %d", n, i, wrong)
			}
		}
	}
	for _, e := range []api.Event{
		{Kind: api.EvWake, Query: api.Query{Text: "a"}}, {Kind: api.EvWake, Query: api.Query{K: 1}}, {Kind: 0, Query: api.Query{N: 1}},
		{Kind: api.EvSubmit, Node: 1}, {Kind: api.EvSubmit, At: 1}, {Kind: api.EvSubmit, X: 1},
	} {
		if s, wrong := script.Print(api.Config{}, []api.Event{e}); s != "" || wrong != api.ErrArg {
			t.Errorf("P29.1: Print of %v: %d", e, wrong)
		}
	}
}

// long is a configuration whose script has so many bytes.
func long(n int) api.Config {
	return api.Config{Words: []string{strings.Repeat("a", n-len("word \"\"\n")-len("set 0 0 0 0 0 0 0 0 0 0\n"))}}
}

func TestFull(t *testing.T) {
	s, wrong := script.Print(long(65536), nil)
	if len(s) != 65536 || wrong != api.OK {
		t.Errorf("P29.1: Print of 65536 bytes: %d, %d", len(s), wrong)
	}
	if c, _, _, wrong := script.Parse(s); wrong != api.OK || !reflect.DeepEqual(c, long(65536)) {
		t.Errorf("P29.1: Parse of 65536 bytes: %d", wrong)
	}
	if s, wrong := script.Print(long(65537), nil); s != "" || wrong != api.ErrFull {
		t.Errorf("P29.1: Print of 65537 bytes: %d", wrong)
	}
	if s, wrong := script.Print(long(65537), []api.Event{{Kind: -1}}); s != "" || wrong != api.ErrArg {
		t.Errorf("P29.1: Print of 65537 bytes with a wrong number: %d", wrong)
	}
	if c, es, line, wrong := script.Parse(strings.Repeat("\n", 65537)); !reflect.DeepEqual(c, api.Config{}) || es != nil || line != 0 || wrong != api.ErrFull {
		t.Errorf("P29.1: Parse of 65537 bytes: %d, %d", line, wrong)
	}
}

func TestParse(t *testing.T) {
	c, es, line, wrong := script.Parse(printed)
	if !reflect.DeepEqual(c, config()) || !reflect.DeepEqual(es, events()) || line != 0 || wrong != api.OK {
		t.Errorf("P29.2: Parse = %v, %v, %d, %d", c, es, line, wrong)
	}
	for _, s := range []string{"", "set 0 0 0 0 0 0 0 0 0 0", "set 1 1 1 1 1 1 1 1 1 1\nset 0 0 0 0 0 0 0 0 0 0\n"} {
		if c, es, line, wrong := script.Parse(s); !reflect.DeepEqual(c, api.Config{}) || len(es) != 0 || line != 0 || wrong != api.OK {
			t.Errorf("P29.1: Parse(%q) = %v, %v, %d, %d", s, c, es, line, wrong)
		}
	}
	c, es, _, wrong = script.Parse("ev 3 0 0 0\nset 1 2 3 4 5 6 7 8 9 10\nword \"b\"\ncut 7 \"q\"\nset 2 2 3 4 5 6 7 8 9 10\nword \"a\"")
	want := api.Config{Words: []string{"b", "a"}, Cuts: []api.Key{{Len: 7, Text: "q"}}, Workers: 2, Copies: 2, Slots: 3, Batch: 4, Lease: 5, Hedge: 6, First: 7, Cap: 8, Jitter: 9, Net: 10}
	if !reflect.DeepEqual(c, want) || len(es) != 1 || wrong != api.OK {
		t.Errorf("P29.1: Parse of lines in any order = %v, %v, %d", c, es, wrong)
	}
}

func TestParseErrors(t *testing.T) {
	for _, bad := range []string{
		"", " ", "words \"a\"", "word", "word ", "word a", "word \"a\" ", " word \"a\"", "word  \"a\"", "word \"a\" \"b\"", "word \"a b\"", "word\t\"a\"", "word \"a\"\r", "Word \"a\"",
		"cut", "cut 1", "cut 1 a", "cut \"a\"", "cut \"a\" 1", "cut 01 \"a\"", "cut -1 \"a\"", "cut 1 \"a\" 2", "cut +1 \"a\"", "cut 1000000 \"a\"", "cut 9999999999999999999999 \"a\"", "cut 1.0 \"a\"", "cut  \"a\"", "cut １ \"a\"",
		"set", "set 1 2 3 4 5 6 7 8 9", "set 1 2 3 4 5 6 7 8 9 10 11", "set 1 2 3 4 5 6 7 8 9 x", "set 1 2 3 4 5 6 7 8 9 ", "set 1 2 3 4 5 6 7 8 9 00",
		"ev", "ev 2 3 4", "ev 1 0 0 0", "ev 2 3 4 5 6", "ev 2 3 4 -5", "ev 01 0 0 0", "ev a b c d", "ev 4 1 2 0x3",
		"ask", "ask \"a\"", "ask \"a\" 1", "ask \"a\" 1 2 3", "ask a 1 2", "ask \"a\" 1 b", "ask 1 2 \"a\"", "ask \"a\" 1 02", "!may", "#", "set 1 2 3 4 5 6 7 8 9 10;",
	} {
		for n, before := range []string{"", "word \"a\"\n", "ev 2 0 0 0\nask \"\" 0 0\n"} {
			for _, after := range []string{"\n", "\nword \"z\"\n", "\n\n"} {
				if c, es, line, wrong := script.Parse(before + bad + after); !reflect.DeepEqual(c, api.Config{}) || es != nil || line != n+1 || wrong != api.ErrLine {
					t.Errorf("P29.1: Parse(%q) = %v, %v, %d, %d", before+bad+after, c, es, line, wrong)
				}
			}
		}
	}
}

func TestRoundTrip(t *testing.T) {
	rng := rand.New(rand.NewPCG(29, 1))
	number := func() int { return []int{0, 1, 9, 10, 999999, rng.IntN(1000000)}[rng.IntN(6)] }
	text := func() string {
		b := make([]byte, rng.IntN(6))
		for i := range b {
			b[i] = byte(rng.IntN(256))
		}
		return string(b)
	}
	for range 500 {
		c := api.Config{
			Workers: number(), Copies: number(), Slots: number(), Batch: number(), Lease: number(),
			Hedge: number(), First: number(), Cap: number(), Jitter: number(), Net: number(),
		}
		for range rng.IntN(5) {
			c.Words = append(c.Words, text())
		}
		for range rng.IntN(5) {
			c.Cuts = append(c.Cuts, api.Key{Len: number(), Text: text()})
		}
		var es []api.Event
		for range rng.IntN(6) {
			e := api.Event{Kind: number(), Node: number(), At: number(), X: number()}
			if e.Kind == api.EvSubmit || rng.IntN(2) == 0 {
				e = api.Event{Kind: api.EvSubmit, Query: api.Query{Text: text(), K: number(), N: number()}}
			}
			es = append(es, e)
		}
		s, wrong := script.Print(c, es)
		if wrong != api.OK {
			t.Fatalf("P29.2: Print: %d", wrong)
		}
		gotC, gotEs, line, wrong := script.Parse(s)
		if !reflect.DeepEqual(gotC, c) || !reflect.DeepEqual(gotEs, es) || line != 0 || wrong != api.OK {
			t.Fatalf("P29.2: %v became %v", c, gotC)
		}
		if again, _ := script.Print(gotC, gotEs); again != s {
			t.Fatalf("P29.2: %s became %s", s, again)
		}
	}
}
