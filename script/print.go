package script

import (
	"slices"
	"strconv"
	"strings"

	"inkhorn/api"
	"inkhorn/lines"
	"inkhorn/span"
)

// page is a script that is being written.
type page struct {
	text strings.Builder
}

func (p *page) config(c api.Config) {
	for _, w := range c.Words {
		p.line(wordLine, Quote(w))
	}
	for _, cut := range c.Cuts {
		p.line(cutLine, strconv.Itoa(cut.Len), Quote(cut.Text))
	}
	p.line(append([]string{setLine}, decimal(settingsOf(c))...)...)
}

func (p *page) event(e api.Event) {
	if e.Kind == api.EvSubmit {
		p.line(askLine, Quote(e.Query.Text), strconv.Itoa(e.Query.K), strconv.Itoa(e.Query.N))
		return
	}
	p.line(append([]string{evLine}, decimal(numbersOf(e))...)...)
}

func (p *page) line(parts ...string) {
	p.text.WriteString(strings.Join(parts, separator))
	p.text.WriteString(lines.End)
}

// printable reports whether a script can say all of this.
func printable(c api.Config, es []api.Event) bool {
	for _, cut := range c.Cuts {
		if !isNumber(cut.Len) {
			return false
		}
	}
	return areNumbers(settingsOf(c)) && !slices.ContainsFunc(es, func(e api.Event) bool { return !mayPrint(e) })
}

func mayPrint(e api.Event) bool {
	if e.Kind == api.EvSubmit {
		return e.Node == 0 && e.At == 0 && e.X == 0 && isNumber(e.Query.K) && isNumber(e.Query.N)
	}
	return e.Query == api.Query{} && areNumbers(numbersOf(e))
}

func settingsOf(c api.Config) []int {
	return []int{c.Workers, c.Copies, c.Slots, c.Batch, c.Lease, c.Hedge, c.First, c.Cap, c.Jitter, c.Net}
}

func numbersOf(e api.Event) []int {
	return []int{e.Kind, e.Node, e.At, e.X}
}

func areNumbers(ns []int) bool {
	return !slices.ContainsFunc(ns, func(n int) bool { return !isNumber(n) })
}

func isNumber(n int) bool {
	return span.In(n, 0, mostNumber)
}

func decimal(ns []int) []string {
	var out []string
	for _, n := range ns {
		out = append(out, strconv.Itoa(n))
	}
	return out
}
