package replay

import (
	"sawtooth/api"
	"sawtooth/event"
)

// found is what was read of a raw event: the event, or why it is none.
type found struct {
	event api.Event
	err   api.Errno
}

// reader reads raw events in a goroutine of its own, which closes events once it reads no more; who wants no more closes enough.
type reader struct {
	events chan found
	enough chan struct{}
}

func start(raw [][]int) reader {
	r := reader{events: make(chan found), enough: make(chan struct{})}
	go r.read(raw)
	return r
}

// read waits for each event to be wanted, or for word that none is: it would wait for ever, if nobody received.
func (r reader) read(raw [][]int) {
	defer close(r.events)
	for _, l := range raw {
		e, err := event.Decode(l)
		select {
		case <-r.enough:
			return
		case r.events <- found{e, err}:
		}
	}
}

// stop takes what may still be sent, and leaves it, up to the close, which is the last thing that the reader does.
func (r reader) stop() {
	close(r.enough)
	for range r.events {
	}
}
