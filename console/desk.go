package console

import (
	"strings"

	"inkhorn/api"
	"inkhorn/cluster"
	"inkhorn/lines"
	"inkhorn/script"
)

// desk holds the lines that have been collected: those that were read, as a configuration and events, and those that
// have come since. Lines are only ever added, so that a command needs to read and to play just what is new.
type desk struct {
	fresh  []string
	count  int // lines that were read
	wrong  int // the number of the first line that was rejected, or 0
	conf   api.Config
	events []api.Event
	play   *cluster.Cluster // what the configuration and the first events have led to, or nil
	recs   []api.Rec
}

func (d *desk) collect(line string) {
	d.fresh = append(d.fresh, line)
}

// read reads the lines that have come since it was called before.
func (d *desk) read() {
	if len(d.fresh) == 0 || d.wrong > 0 {
		return
	}
	// What is read together with its line ends is shorter than the text, which has the command, too.
	conf, events, line, wrong := script.Parse(strings.Join(d.fresh, lines.End) + lines.End)
	if wrong != api.OK {
		d.wrong = d.count + line
		return
	}
	d.configure(conf)
	d.events = append(d.events, events...)
	d.count += len(d.fresh)
	d.fresh = nil
}

// configure adds what the new lines say of the configuration.
func (d *desk) configure(c api.Config) {
	set := hasSettings(d.fresh)
	if !set && len(c.Words) == 0 && len(c.Cuts) == 0 {
		return
	}
	// Another configuration asks for another play.
	d.play, d.recs = nil, nil
	words := append(d.conf.Words, c.Words...)
	cuts := append(d.conf.Cuts, c.Cuts...)
	if set {
		d.conf = c
	}
	d.conf.Words, d.conf.Cuts = words, cuts
}

// hasSettings reports whether one of the lines, which are right, is a set line.
func hasSettings(all []string) bool {
	for _, line := range all {
		if strings.HasPrefix(line, "set ") {
			return true
		}
	}
	return false
}

// told returns what cluster.Run tells; the configuration is valid.
func (d *desk) told() []api.Told {
	d.goOn()
	return d.play.Coord().All()
}

// records returns the records that cluster.Run returns; the configuration is valid.
func (d *desk) records() []api.Rec {
	d.goOn()
	return d.recs
}

// goOn plays the events that were not played yet.
func (d *desk) goOn() {
	if d.play == nil {
		d.play, _ = cluster.New(d.conf)
	}
	for _, e := range d.events[len(d.recs):min(len(d.events), api.MaxEvents)] {
		d.recs = append(d.recs, d.play.Step(e))
	}
}
