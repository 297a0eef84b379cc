package cluster

import (
	"inkhorn/api"
	"inkhorn/coord"
	"inkhorn/worker"
)

// node is what the coordinator and the workers have in common.
type node interface {
	Up() bool
	Take(m any) []api.Letter
	Wake(draw int) []api.Letter
}

// hub is the coordinator as a node.
type hub struct{ *coord.Coord }

// Up is always true: the coordinator does not crash.
func (h hub) Up() bool { return true }

// Take hands on what workers say; to all else a coordinator is deaf.
func (h hub) Take(m any) []api.Letter {
	if hello, ok := m.(api.Hello); ok {
		return h.Coord.Take(hello)
	}
	if reply, ok := m.(api.Reply); ok {
		return h.Coord.Take(reply)
	}
	return nil
}

// hand is a worker as a node.
type hand struct{ *worker.Worker }

// Take answers nothing: a worker speaks when it wakes.
func (h hand) Take(m any) []api.Letter {
	h.Worker.Take(m)
	return nil
}

// Wake needs no draw: a worker has no delays.
func (h hand) Wake(draw int) []api.Letter {
	return h.Worker.Wake()
}
