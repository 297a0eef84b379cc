package script

import (
	"strings"

	"inkhorn/api"
)

// mostDigits is how many digits the greatest number has.
const mostDigits = 6

// parser holds what has been read so far.
type parser struct {
	conf   api.Config
	events []api.Event
}

// line reads a line, or returns false if it has none of the forms.
func (p *parser) line(line string) bool {
	parts := strings.Split(line, separator)
	rest := parts[1:]
	switch parts[0] {
	case wordLine:
		return p.word(rest)
	case cutLine:
		return p.cut(rest)
	case setLine:
		return p.set(rest)
	case evLine:
		return p.event(rest)
	case askLine:
		return p.ask(rest)
	}
	return false
}

func (p *parser) word(parts []string) bool {
	if len(parts) != 1 {
		return false
	}
	w, ok := Unquote(parts[0])
	if ok {
		p.conf.Words = append(p.conf.Words, w)
	}
	return ok
}

func (p *parser) cut(parts []string) bool {
	if len(parts) != 2 {
		return false
	}
	n, okLen := number(parts[0])
	s, okText := Unquote(parts[1])
	if !okLen || !okText {
		return false
	}
	p.conf.Cuts = append(p.conf.Cuts, api.Key{Len: n, Text: s})
	return true
}

func (p *parser) set(parts []string) bool {
	ns, ok := numbers(parts, settings)
	if !ok {
		return false
	}
	c := &p.conf
	c.Workers, c.Copies, c.Slots, c.Batch, c.Lease = ns[0], ns[1], ns[2], ns[3], ns[4]
	c.Hedge, c.First, c.Cap, c.Jitter, c.Net = ns[5], ns[6], ns[7], ns[8], ns[9]
	return true
}

func (p *parser) event(parts []string) bool {
	ns, ok := numbers(parts, 4)
	if !ok || ns[0] == api.EvSubmit {
		return false
	}
	p.events = append(p.events, api.Event{Kind: ns[0], Node: ns[1], At: ns[2], X: ns[3]})
	return true
}

func (p *parser) ask(parts []string) bool {
	if len(parts) != 3 {
		return false
	}
	s, okText := Unquote(parts[0])
	ns, okNumbers := numbers(parts[1:], 2)
	if !okText || !okNumbers {
		return false
	}
	q := api.Query{Text: s, K: ns[0], N: ns[1]}
	p.events = append(p.events, api.Event{Kind: api.EvSubmit, Query: q})
	return true
}

// numbers reads exactly so many numbers.
func numbers(parts []string, count int) ([]int, bool) {
	if len(parts) != count {
		return nil, false
	}
	var out []int
	for _, part := range parts {
		n, ok := number(part)
		if !ok {
			return nil, false
		}
		out = append(out, n)
	}
	return out, true
}

func number(s string) (int, bool) {
	if s == "" || len(s) > mostDigits || len(s) > 1 && s[0] == '0' {
		return 0, false
	}
	n := 0
	for _, r := range s {
		if r < '0' || r > '9' {
			return 0, false
		}
		n = n*10 + int(r-'0')
	}
	return n, true
}
