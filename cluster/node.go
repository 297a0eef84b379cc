package cluster

import (
	"inkhorn/api"
	"inkhorn/coord"
	"inkhorn/worker"
)

// node is what the coordinator and the workers have in common.
type node interface {
	Up() bool
	Take(m any) []api.Letter
	Wake(draw int) []api.Letter
}

// hub is the coordinator as a node.
type hub struct{ *coord.Coord }

// Up is always true: the coordinator does not crash.
func (h hub) Up() bool { return true }

// hand is a worker as a node.
type hand struct{ *worker.Worker }

// Take answers nothing: a worker speaks when it wakes.
func (h hand) Take(m any) []api.Letter {
	h.Worker.Take(m)
	return nil
}

// Wake needs no draw: a worker has no delays.
func (h hand) Wake(draw int) []api.Letter {
	return h.Worker.Wake()
}

// meant reports whether a node listens to a message at all: workers speak to the coordinator, and it to them.
func meant(to int, m any) bool {
	_, hello := m.(api.Hello)
	_, reply := m.(api.Reply)
	return (to == coordinator) == (hello || reply)
}
