package engine

import (
	"sawtooth/api"
	"sawtooth/bucket"
	"sawtooth/clock"
	"sawtooth/cubic"
	"sawtooth/cut"
	"sawtooth/epoch"
	"sawtooth/event"
	"sawtooth/flight"
	"sawtooth/frac"
	"sawtooth/grow"
	"sawtooth/guide"
	"sawtooth/hystart"
	"sawtooth/least"
	"sawtooth/rate"
	"sawtooth/reno"
	"sawtooth/round"
	"sawtooth/rto"
	"sawtooth/rtt"
)

// connection is a state while an event is done: a copy, so that a refusal may leave it half done.
type connection struct {
	api.State
}

// refusal is what is panicked with, and nothing else: why an event is not done.
type refusal struct{ why api.Errno }

// sure is what there is without an error; with one the event is left at once, however deep in it that is.
func sure[T any](is T, err api.Errno) T {
	if err != api.OK {
		panic(refusal{err})
	}
	return is
}

// take is an event as a whole: what is the same for all kinds, and then its own.
func (c *connection) take(e api.Event) {
	if !Check(c.State) {
		panic(refusal{api.ErrField})
	}
	e = sure(e, event.Check(e))
	c.Now = sure(clock.Step(c.Now, e.At))
	c.Bucket = sure(bucket.Fill(c.Bucket, e.At, c.rate(), burst(c.Config)))
	kinds()[e.Kind](c, e)
}

// kinds is made anew each time, so that no call can change it for another.
func kinds() map[int]func(c *connection, e api.Event) {
	return map[int]func(c *connection, e api.Event){
		api.VAck:     (*connection).told,
		api.VLoss:    (*connection).lost,
		api.VEcn:     (*connection).marked,
		api.VTimeout: (*connection).late,
		api.VIdle:    (*connection).idle,
		api.VSend:    (*connection).sent,
		api.VTick:    (*connection).tick,
	}
}

func (c *connection) sent(e api.Event) {
	if c.Flight.Out == 0 {
		c.Window = guide.Idle(c.Window, c.Last, e.At, c.timeout(), c.Config)
		c.Epoch = guide.Pause(c.Epoch, c.Last, e.At)
	}
	room := sure(frac.Bytes(c.Window, c.Config.Seg))
	c.Flight = sure(flight.Send(c.Flight, e.Bytes, room))
	c.Bucket = sure(bucket.Take(c.Bucket, e.Bytes))
	c.Last = e.At
	c.Limited = !guide.Used(c.Window, c.Flight.Out, c.Config.Seg)
}

// told lets the window grow only by what it was too small for: neither while it recovers, nor where the sender itself was the limit.
func (c *connection) told(e api.Event) {
	c.Flight = sure(flight.Ack(c.Flight, e.Bytes))
	c.Back = 0
	if e.Rtt != 0 {
		c.measure(e)
	}
	c.turn()
	if !c.recovers() && !c.Limited {
		c.grow(e.At, sure(frac.Segs(e.Bytes, c.Config.Seg)))
	}
}

func (c *connection) lost(e api.Event) {
	c.Flight = sure(flight.Lose(c.Flight, e.Bytes))
	c.cut()
}

func (c *connection) marked(api.Event) {
	c.cut()
}

// late takes all that is out as lost: what recovers from there on is what is sent then.
func (c *connection) late(api.Event) {
	if c.Flight.Out == 0 {
		panic(refusal{api.ErrAck})
	}
	c.Window, c.Thresh, c.High = cut.Timeout(c.Window, c.High)
	c.Back = rto.Back(c.Rtt, c.Config, c.Back)
	c.Flight = sure(flight.Lose(c.Flight, c.Flight.Out))
	c.Recover = c.Flight.Sent
	c.Epoch, c.Hystart = api.Epoch{}, api.Hystart{}
	c.Round = round.Begin(c.Flight.Sent)
}

func (c *connection) idle(api.Event) {
	c.Limited = true
}

// tick does nothing of its own: the time, and the bucket, have gone on by then.
func (c *connection) tick(api.Event) {}

func (c *connection) measure(e api.Event) {
	c.Rtt = sure(rtt.Sample(c.Rtt, e.Rtt))
	c.Least = sure(least.Put(c.Least, api.Window, e.At, e.Rtt))
	if c.slow() {
		c.Hystart = sure(hystart.Sample(c.Hystart, e.Rtt))
	}
}

// turn leaves the error of a round out: such a round stays, and is not over.
func (c *connection) turn() {
	r, over, _ := round.Ack(c.Round, c.resolved(), c.Flight.Sent)
	c.Round = r
	if over && c.slow() {
		c.Hystart = sure(hystart.Round(c.Hystart))
	}
}

func (c *connection) grow(at, told int) {
	if c.slow() {
		c.rise(told)
	} else {
		c.climb(at, told)
	}
}

// rise is slow start, which is over where the Hystart is done, though the window is below Thresh.
func (c *connection) rise(told int) {
	c.Window = c.limited(grow.Slow(c.Window, told, c.Hystart))
	if c.Hystart.Done {
		c.Thresh = c.Window
	}
}

// climb takes the law as it is when the bytes that go now are told of: one time there and back from now.
func (c *connection) climb(at, told int) {
	if !c.Epoch.On {
		c.Epoch = sure(epoch.Begin(at, c.Window, c.High))
	}
	c.Epoch.Est = reno.Step(c.Epoch.Est, c.Epoch.Max, c.Window, told)
	target := cubic.Target(c.Epoch, clock.After(at, rtt.Mean(c.Rtt)), c.Window)
	c.Window = c.limited(grow.Both(c.Window, target, c.Epoch.Est, told))
}

// cut is done once for all that is out when it is done: what is lost of that later on tells nothing new.
func (c *connection) cut() {
	if c.recovers() {
		return
	}
	c.Window, c.High = cut.Loss(c.Window, c.High)
	c.Thresh = c.Window
	c.Recover = c.Flight.Sent
	c.Epoch, c.Hystart = api.Epoch{}, api.Hystart{Done: true}
}

func (c *connection) limited(window int) int {
	return grow.Limit(window, c.Config.Max*api.One)
}

func (c *connection) resolved() int {
	return c.Flight.Sent - c.Flight.Out
}

func (c *connection) recovers() bool {
	return c.resolved() < c.Recover
}

func (c *connection) slow() bool {
	return c.Window < c.Thresh
}

func (c *connection) rate() int {
	return rate.Of(c.Window, c.Config.Seg, c.Rtt, c.slow())
}

func (c *connection) timeout() int {
	return rto.Of(c.Rtt, c.Config, c.Back)
}

// phase asks for recovery first: a cut leaves no slow start either.
func (c *connection) phase() int {
	switch {
	case c.recovers():
		return api.PRecover
	case !c.slow():
		return api.PCalm
	case c.Hystart.Gentle:
		return api.PGentle
	}
	return api.PSlow
}
