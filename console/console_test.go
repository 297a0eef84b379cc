package console_test

import (
	"fmt"
	"math/rand/v2"
	"os"
	"strings"
	"testing"
	"time"

	"inkhorn/api"
	"inkhorn/check"
	"inkhorn/cluster"
	"inkhorn/console"
	"inkhorn/place"
	"inkhorn/rank"
	"inkhorn/script"
	"inkhorn/trace"
)

func runs(t *testing.T, s string, want string) {
	t.Helper()
	if got, wrong := console.Run(s); got != want || wrong != api.OK {
		t.Errorf("P30.1: Run(%q) = %q, %d, not %q", s, got, wrong, want)
	}
}

const head = `word "ab"
word "abc"
word "b"
word "\c3\a9"
cut 2 ""
set 2 1 2 3 20 5 2 8 0 16
`

// meet is what gives both workers an epoch, and ask what brings the answer of the query 1.
const (
	meet = "ev 4 1 0 0\nev 5 0 0 0\nev 5 0 0 0\nev 4 2 0 0\nev 5 0 0 0\nev 5 0 0 0\n"
	ask  = "ask \"ab\" 1 2\nev 4 0 0 0\nev 5 0 1 0\nev 4 2 0 0\nev 5 0 1 0\n"
	rest = "ev 5 0 0 0\nev 4 1 0 0\nev 5 0 0 0\n"
)

func TestCommands(t *testing.T) {
	runs(t, "", "")
	runs(t, "!may", "no\n")
	runs(t, "!may\n", "no\n")
	runs(t, head, "")
	runs(t, head+"!may\n!told\n!sum\n!right\n", "yes\n-\n0 0 0 0 0 0\nyes\n")
	runs(t, head+meet+"!sum", "4 4 0 0 0 0\n")
	runs(t, head+meet+ask+"!told\n!right\n!sum\n"+rest+"!told\n!right\n!sum\n", "1:0/\"ab\"\nyes\n7 6 0 1 0 0\n1:0/\"ab\",1/\"abc\".\nyes\n10 8 0 1 0 0\n")
	runs(t, head+"ask \"q\" 0 1\nask \"q\" 0 1\nask \"q\" 0 1\nask \"q\" 9 1\nev 2 0 2 0\n!told\n!sum\n", "1: 2:x\n2 0 0 2 1 1\n")
	runs(t, head+"ask \"0123456789abcdef\" 3 1\n!told\n", "1:.\n")
	runs(t, head+"ask \"q\" 0 1\nev 5 9 0 0\nev 4 1 0 0\nev 6 0 0 0\n!sum\n", "1 0 1 1 0 0\n")
}

// TestReadme holds the README to what it shows.
func TestReadme(t *testing.T) {
	b, err := os.ReadFile("../README.md")
	if err != nil {
		t.Fatal(err)
	}
	parts := strings.Split(string(b), "```\n")
	runs(t, parts[1], parts[3])
}

func TestTop(t *testing.T) {
	runs(t, head+"!top \"ab\" 1 2\n!top \"\\c3\\a9\" 1 10\n!top \"zzzz\" 0 1\n!top \"ab\" 5 1\n!top \"ab\" 1 0\n!top \"\\ff\" 1 1\n",
		"0/\"ab\",1/\"abc\"\n0/\"\\c3\\a9\",1/\"b\"\n-\n-\n-\n-\n")
	for _, bad := range []string{"!top", "!top ", "!top \"ab\"", "!top \"ab\" 1", "!top \"ab\" 1 2 3", "!top ab 1 2", "!top \"ab\" 01 2", "!top  \"ab\" 1 2", "!top \"ab\" 1 2 ", "!topx \"ab\" 1 2", "!top\t\"ab\" 1 2", "!top \"a b\" 1 2", "!top \"ab\" 1 -2"} {
		runs(t, head+bad+"\n", "error\n")
	}
}

func TestErrors(t *testing.T) {
	for _, bad := range []string{"!", "!may ", "! may", "!MAY", "!told x", "!sum\r", "!right!", "!!may", "!tol", "!x"} {
		runs(t, head+bad+"\n", "error\n")
		runs(t, bad, "error\n")
		runs(t, "x\n"+bad, "error 1\n")
	}
	runs(t, "!may\n!told\n!sum\n!right\n!top \"a\" 1 1\n", "no\nerror\nerror\nerror\nerror\n")
	runs(t, "word \"b\"\n!may\nword \"a\"\n!may\n!sum\nset 1 1 1 1 1 1 1 1 0 8\n!may\n", "no\nno\nerror\nno\n")
	runs(t, "!may\nword \"a\"\n!may\n\n!may\n!told\nword \"b\"\n!foo\n!top \"a\" 0 1", "no\nno\nerror 2\nerror 2\nerror 2\nerror 2\n")
	runs(t, head+"!may\nev 1 0 0 0\n!may\nx\n!sum\n", "yes\nerror 7\nerror 7\n")
	runs(t, " !may\n!may\n", "error 1\n")
	runs(t, "\n!may\n", "error 1\n")
	runs(t, head+"x", "")
}

func TestLateLines(t *testing.T) {
	runs(t, head+"ask \"b\" 0 1\n!told\nset 2 1 1 3 20 5 2 8 0 16\nask \"b\" 0 1\n!told\n!sum\nset 2 2 2 3 20 5 2 8 0 16\n!sum\nset 2 3 2 3 20 5 2 8 0 16\n!sum\n!may\n",
		"1:\n1:\n0 0 0 1 1 0\n0 0 0 2 0 0\nerror\nno\n")
	runs(t, head+"!top \"zz\" 0 3\nword \"zz\"\n!top \"zz\" 0 3\n!may\n", "-\nerror\nno\n")
	runs(t, "set 2 1 2 3 20 5 2 8 0 16\nword \"a\"\n!top \"b\" 1 3\nword \"b\"\n!top \"b\" 1 3\ncut 1 \"b\"\n!may\ncut 1 \"a\"\n!may\n", "1/\"a\"\n0/\"b\",1/\"a\"\nyes\nno\n")
}

func TestFull(t *testing.T) {
	s := "!may\n" + strings.Repeat("x", 65531)
	runs(t, s, "no\n")
	if got, wrong := console.Run(s + "x"); got != "" || wrong != api.ErrFull {
		t.Errorf("P30.1: Run of 65537 bytes: %q, %d", got, wrong)
	}
	runs(t, strings.Repeat("\n", 65535)+"!", "error 1\n")
	long := "word \"" + strings.Repeat("a", 65536-len("word \"\"\n!may")) + "\"\n!may"
	if len(long) != 65536 {
		t.Fatal(len(long))
	}
	runs(t, long, "no\n")
}

func TestManyEvents(t *testing.T) {
	ticks := strings.Repeat("ev 3 0 0 0\n", 3998)
	runs(t, head+ticks+"ask \"a\" 0 1\n!sum\nask \"b\" 0 1\n!told\n!told\nask \"c\" 9 1\n!told\n!sum\n", "0 0 0 1 0 0\n1: 2:\n1: 2:\n1: 2:\n0 0 0 2 0 0\n")
}

// plainly does what the chapter says, from the beginning for each command.
func plainly(s string) string {
	out, collected := "", ""
	for _, line := range strings.Split(strings.TrimSuffix(s, "\n"), "\n") {
		if !strings.HasPrefix(line, "!") {
			collected += line + "\n"
			continue
		}
		out += answer(collected, line) + "\n"
	}
	return out
}

func answer(collected string, line string) string {
	c, es, n, wrong := script.Parse(collected)
	if wrong != api.OK {
		return fmt.Sprintf("error %d", n)
	}
	if line == "!may" && !place.May(c) {
		return "no"
	}
	told, recs, wrong := cluster.Run(c, es)
	if wrong != api.OK {
		return "error"
	}
	switch line {
	case "!may":
		return "yes"
	case "!sum":
		s := trace.Of(recs)
		return fmt.Sprint(s.Sent, s.Got, s.Lost, s.Accepted, s.Busy, s.Invalid)
	case "!right":
		for _, t := range told {
			if !check.Right(c.Words, t) {
				return "no"
			}
		}
		return "yes"
	case "!told":
		var parts []string
		for _, t := range told {
			end := map[bool]string{true: "."}[t.Done] + map[bool]string{true: "x"}[t.Cancelled]
			parts = append(parts, fmt.Sprint(t.ID)+":"+written(t.Items)+end)
		}
		if len(parts) == 0 {
			return "-"
		}
		return strings.Join(parts, " ")
	case "!top \"ab\" 2 3":
		return written(rank.Top(c.Words, api.Query{Text: "ab", K: 2, N: 3}))
	}
	return "error"
}

func written(items []api.Item) string {
	var parts []string
	for _, i := range items {
		parts = append(parts, fmt.Sprintf("%d/%s", i.Dist, script.Quote(i.Word)))
	}
	return strings.Join(parts, ",")
}

func drawLine(rng *rand.Rand) string {
	switch n := rng.IntN(100); {
	case n < 12:
		return []string{"!may", "!told", "!sum", "!right", "!top \"ab\" 2 3", "!x"}[rng.IntN(6)]
	case n < 14:
		return fmt.Sprintf("set %d 1 2 3 20 5 2 8 1 %d", 1+rng.IntN(3), 8+rng.IntN(60))
	case n < 15:
		return fmt.Sprintf("word \"b%c\"", 'a'+rng.IntN(26))
	case n < 22:
		return fmt.Sprintf("ask \"%s\" %d %d", []string{"ab", "b", "", "abcd"}[rng.IntN(4)], rng.IntN(6), 1+rng.IntN(5))
	case n < 50:
		return fmt.Sprintf("ev 4 %d 0 %d", rng.IntN(4), rng.IntN(99))
	case n < 85:
		return fmt.Sprintf("ev 5 0 %d 0", rng.IntN(3))
	}
	return fmt.Sprintf("ev %d %d %d %d", 2+rng.IntN(11), rng.IntN(3), rng.IntN(4), rng.IntN(9999))
}

func TestAgainstPlainly(t *testing.T) {
	for seed := range uint64(60) {
		rng := rand.New(rand.NewPCG(30, seed))
		s := head
		for range 250 {
			s += drawLine(rng) + "\n"
		}
		if seed%10 == 9 {
			s += "ev\n!may\n!sum\n"
		}
		got, wrong := console.Run(s)
		if want := plainly(s); got != want || wrong != api.OK {
			t.Fatalf("P30.1: Run(%s) = %s, %d, not %s", s, got, wrong, want)
		}
		all := strings.SplitAfter(s, "\n")
		first, wrong := console.Run(strings.Join(all[:rng.IntN(len(all))], ""))
		if !strings.HasPrefix(got, first) || wrong != api.OK {
			t.Fatalf("P30.2: %q does not begin with %q", got, first)
		}
	}
}

// TestManyCommands asks thousands of commands over thousands of events.
func TestManyCommands(t *testing.T) {
	start := time.Now()
	for _, s := range []string{
		head + meet + strings.Repeat("ev 4 0 0 0\n", 2900) + strings.Repeat("!sum\n", 6000),
		head + meet + strings.Repeat("ev 4 1 0 0\n!sum\n", 4000),
		head + meet + strings.Repeat("ask \"ab\" 1 2\nev 4 0 0 0\n!right\n!told\n", 1600),
	} {
		if _, wrong := console.Run(s[:min(len(s), 65536)]); wrong != api.OK {
			t.Errorf("P30.1: Run: %d", wrong)
		}
	}
	if spent := time.Since(start); spent > 20*time.Second {
		t.Errorf("many commands took %v", spent)
	}
}
