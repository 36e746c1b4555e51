package engine_test

import (
	"slices"
	"sync"
	"testing"

	"sawtooth/api"
	"sawtooth/engine"
	"sawtooth/epoch"
)

// stirred are numbers from 0 up to below n, the same ones for each seed.
func stirred(seed uint64) func(n int) int {
	s := seed*2862933555777941757 + 3037000493
	return func(n int) int {
		s = s*6364136223846793005 + 1442695040888963407
		return int((s >> 33) % uint64(n))
	}
}

// sized is a number of at most so many bits, of any length.
func sized(next func(n int) int, bits int) int {
	n := 0
	for range next(bits + 1) {
		n = 2*n + next(2)
	}
	return n
}

// between is a number from low to high: one of both, now and then, or near the low one.
func between(next func(n int) int, low, high int) int {
	switch next(4) {
	case 0:
		return low
	case 1:
		return high
	}
	return min(low+sized(next, 62)%(high-low+1), high)
}

func stirredConfig(next func(n int) int) api.Config {
	c := api.Config{Seg: between(next, 1, 9000), Max: between(next, 4, maxSegs), Grain: between(next, 1, 1000000), Burst: between(next, 1, 1000)}
	c.First = between(next, 2, c.Max)
	c.Great = between(next, 1, maxTime)
	c.Least = between(next, 1, c.Great)
	return c
}

func stirredMarks(next func(n int) int, now int) []api.Mark {
	var l []api.Mark
	m := api.Mark{At: between(next, 0, now), N: 1 + next(maxRtt)}
	for range next(5) {
		if m.N > maxRtt {
			break
		}
		l = append(l, m)
		m = api.Mark{At: between(next, m.At, now), N: m.N + 1 + next(100000)}
	}
	return l
}

func stirredHystart(next func(n int) int) api.Hystart {
	h := api.Hystart{Last: between(next, 0, maxRtt)}
	if next(3) > 0 {
		h.Least, h.Many = between(next, 1, maxRtt), between(next, 1, 8)
	}
	switch next(3) {
	case 0:
		h.Gentle, h.Base, h.Rounds = true, between(next, 1, maxRtt), next(6)
	case 1:
		h.Done = true
	}
	return h
}

func stirredEpoch(next func(n int) int) api.Epoch {
	if next(2) == 0 {
		return api.Epoch{}
	}
	e := api.Epoch{On: true, Start: between(next, 0, maxTime), First: between(next, 0, greatest), Est: between(next, 0, greatest)}
	e.Max = between(next, e.First, greatest)
	e.K = epoch.K(e.Max - e.First)
	return e
}

// stirredState is any state that may be, with times there and back near those of its slow start, often enough.
func stirredState(next func(n int) int) api.State {
	s := api.State{Config: stirredConfig(next), Now: between(next, 0, maxTime), Limited: next(4) == 0, Back: between(next, 0, 64)}
	s.Last = between(next, 0, s.Now)
	s.Window = between(next, 2*one, s.Config.Max*one)
	s.Thresh = between(next, 2*one, greatest)
	s.High = between(next, 0, greatest)
	s.Flight.Sent = between(next, 0, most-1)
	s.Flight.Out = min(s.Flight.Sent, sized(next, 34))
	s.Flight.Told = between(next, 0, s.Flight.Sent-s.Flight.Out)
	s.Least = stirredMarks(next, s.Now)
	if next(3) > 0 {
		s.Rtt = api.Rtt{Has: true, Mean: between(next, 8, 8*maxRtt), Far: between(next, 0, 4*maxRtt)}
	}
	s.Round = api.Round{ID: between(next, 0, most-1), End: between(next, 0, s.Flight.Sent)}
	s.Hystart = stirredHystart(next)
	s.Epoch = stirredEpoch(next)
	s.Recover = between(next, 0, s.Flight.Sent)
	s.Bucket = api.Bucket{At: between(next, 0, s.Now), Have: between(next, 0, 1<<60)}
	return s
}

// stirredEvent is one that s may take, often enough: a little later, with bytes that are out, or go into the window.
func stirredEvent(next func(n int) int, s api.State) api.Event {
	e := api.Event{Kind: 1 + next(7), At: min(s.Now+sized(next, 1+next(40)), maxTime)}
	out := min(max(s.Flight.Out, 1), maxBytes)
	switch e.Kind {
	case api.VAck:
		e.Bytes, e.Rtt = between(next, 1, out), between(next, 0, maxRtt)
	case api.VLoss:
		e.Bytes = between(next, 1, out)
	case api.VSend:
		e.Bytes = 1 + min(sized(next, 30), maxBytes-1)
	}
	return e
}

// P21.2 to P21.5: any event of any state that may be, and what is told of what it leaves.
func TestStirred(t *testing.T) {
	next := stirred(21)
	done := map[int]int{}
	for range 40000 {
		s := stirredState(next)
		if !engine.Check(s) {
			t.Fatalf("%+v may not be", s)
		}
		e := stirredEvent(next, s)
		after := holdDo(t, s, e)
		holdTold(t, after)
		if !engine.Check(after) {
			t.Fatalf("Do(%+v, %+v): %+v, which may not be", s, e, after)
		}
		if _, err := engine.Do(s, e); err == api.OK {
			done[e.Kind]++
		}
	}
	for kind := 1; kind <= 7; kind++ {
		if done[kind] < 100 {
			t.Errorf("kind %d was done %d times", kind, done[kind])
		}
	}
}

// usualEvent is one as a sender tells them: full segments, times there and back that grow from round to round, up to where they fall, and the others now and then, losses more often where the scripts are lossy.
func usualEvent(next func(n int) int, s api.State, lossy bool) api.Event {
	seg := s.Config.Seg
	at := s.Now + next(20000)
	n := next(100)
	if !lossy && n >= 85 && next(40) > 0 {
		n = next(85)
	}
	if n >= 40 && n < 85 && s.Flight.Out == 0 {
		n = 0
	}
	switch {
	case n < 40:
		return send(at, seg*(1+next(4)))
	case n < 85:
		return ack(at, max(1, min(s.Flight.Out, seg*(1+next(3)))), min(next(4), 1)*(40000+s.Round.ID%9*5000+next(50)))
	case n < 90:
		return loss(at, max(1, min(s.Flight.Out, seg)))
	case n < 92:
		return ecn(at)
	case n < 93:
		return timeout(at + 300000)
	case n < 94:
		return idle(at)
	case n < 96:
		return tick(at + next(3000000))
	case n < 98:
		return send(at, maxBytes-next(2))
	}
	return ack(max(at-30000, 0), seg, 60000)
}

// book is what a script's events told of so far: bytes, and what was sent when it was cut last.
type book struct{ sent, told, lost, cut int }

// write holds an event that was done against the book, and writes it there.
func (b *book) write(t *testing.T, s, n api.State, e api.Event) {
	t.Helper()
	switch e.Kind {
	case api.VSend:
		b.sent += e.Bytes
		if room := n.Window * n.Config.Seg / one; n.Flight.Out > room {
			t.Fatalf("%+v: %d on its way, of a window of %d", n, n.Flight.Out, room)
		}
		if e.Bytes > n.Config.Burst*n.Config.Seg {
			t.Fatalf("%+v: %d bytes at once", n, e.Bytes)
		}
	case api.VAck:
		b.told += e.Bytes
		if n.Window < s.Window {
			t.Fatalf("%+v, told of, has %d, not %d", n, n.Window, s.Window)
		}
	case api.VLoss:
		b.lost += e.Bytes
	case api.VTimeout:
		b.lost += s.Flight.Out
		b.cut = b.sent
	}
	if (e.Kind == api.VLoss || e.Kind == api.VEcn) && !sameWindows(s, n) {
		if resolved := b.told + b.lost; resolved < b.cut {
			t.Fatalf("%+v: cut again, with %d of %d resolved", n, resolved, b.cut)
		}
		b.cut = b.sent
	}
	if n.Flight != (api.Flight{Sent: b.sent, Told: b.told, Out: b.sent - b.told - b.lost}) {
		t.Fatalf("%+v of %+v", n.Flight, *b)
	}
	if n.Recover != b.cut {
		t.Fatalf("it recovers up to %d, not to %d", n.Recover, b.cut)
	}
}

func sameWindows(a, b api.State) bool {
	return a.Window == b.Window && a.Thresh == b.Thresh && a.High == b.High && a.Recover == b.Recover && a.Epoch == b.Epoch && a.Hystart == b.Hystart
}

// P21.6: over many scripts what may be stays so, the window lies between its bounds, no more is on its way than it lets, and it is cut at most once for what was on its way.
func TestScripts(t *testing.T) {
	phases, refused, cuts := [4]int{}, 0, 0
	for seed := range 60 {
		next := stirred(uint64(seed))
		c := usual()
		c.Seg, c.First, c.Max = 1+next(3000), 2+next(20), 24+next(200)
		c.Burst = 4 + next(100)
		s, err := engine.New(c)
		if err != api.OK {
			t.Fatalf("New(%+v): %v", c, err)
		}
		var b book
		for range 600 {
			e := usualEvent(next, s, seed%3 == 0)
			n := holdDo(t, s, e)
			holdTold(t, n)
			if !engine.Check(n) || n.Window < 2*one || n.Window > c.Max*one {
				t.Fatalf("Do(%+v, %+v): %+v, which may not be", s, e, n)
			}
			if _, err := engine.Do(s, e); err == api.OK {
				b.write(t, s, n, e)
				if n.Recover != s.Recover {
					cuts++
				}
			} else {
				refused++
			}
			phases[engine.Look(n).Part]++
			s = n
		}
	}
	if slices.Min(phases[:]) < 100 || refused < 100 || cuts < 100 {
		t.Errorf("phases %v, %d refused, %d cuts", phases, refused, cuts)
	}
}

// played is what is left of s behind events, all of which are done.
func played(t *testing.T, s api.State, events ...api.Event) api.State {
	t.Helper()
	for i, e := range events {
		n := holdDo(t, s, e)
		if _, err := engine.Do(s, e); err != api.OK {
			t.Fatalf("event %d, %+v: %v of %+v", i, e, err, s)
		}
		s = n
	}
	return s
}

func noted(t *testing.T, name string, s api.State, want api.Note) {
	t.Helper()
	if got := engine.Look(s); got != want {
		t.Errorf("%s: %+v, not %+v", name, got, want)
	}
}

// P21.3 to P21.5: the chapter's example, and those of the whole that are of a connection alone.
func TestExamples(t *testing.T) {
	grown := played(t, fresh(), send(0, 5000), ack(100000, 5000, 0))
	noted(t, "5 of 10 sent, and told of", grown, api.Note{Window: 15 * one, Thresh: greatest, Rate: 300000, Rto: 1000000, Part: api.PSlow})

	ten := played(t, fresh(), send(0, 10000))
	cut := played(t, ten, loss(100000, 1000))
	noted(t, "one of ten lost", cut, api.Note{Window: 7 * one, Thresh: 7 * one, Rate: 87500, Rto: 1000000, Part: api.PRecover})
	more := played(t, cut, loss(110000, 1000), ecn(120000), loss(130000, 1000), ack(140000, 6000, 0))
	noted(t, "no more cuts, with nine resolved", more, api.Note{Window: 7 * one, Thresh: 7 * one, Rate: 87500, Rto: 1000000, Part: api.PRecover})
	noted(t, "all ten resolved, and told of", played(t, more, idle(150000), ack(150000, 1000, 0)), api.Note{Window: 7 * one, Thresh: 7 * one, Rate: 87500, Rto: 1000000, Part: api.PCalm})
	noted(t, "all ten resolved, the last one lost", played(t, more, loss(150000, 1000)), api.Note{Window: 321126, Thresh: 321126, Rate: 61249, Rto: 1000000, Part: api.PCalm})

	late := played(t, ten, timeout(1000000))
	noted(t, "a timeout", late, api.Note{Window: 2 * one, Thresh: 7 * one, Rate: 40000, Rto: 2000000, Part: api.PSlow})

	if _, err := engine.Do(fresh(), send(0, 10001)); err != api.ErrWindow {
		t.Errorf("more than the window: %v", err)
	}
	if _, err := engine.Do(ten, ack(0, 10001, 0)); err != api.ErrAck {
		t.Errorf("more than was sent: %v", err)
	}
	if _, err := engine.Do(cut, tick(99999)); err != api.ErrBack {
		t.Errorf("time that goes back: %v", err)
	}

	wide := played(t, fresh(), send(0, 10000), ack(100000, 10000, 100000))
	noted(t, "all of ten sent, and told of", wide, api.Note{Window: 18 * one, Thresh: greatest, Rate: 360000, Rto: 300000, Part: api.PSlow})
	noted(t, "a pause as long as the timeout", played(t, wide, send(300000, 1000)), api.Note{Window: 18 * one, Thresh: greatest, Rate: 360000, Rto: 300000, Part: api.PSlow})
	noted(t, "a pause longer than the timeout", played(t, wide, send(300001, 1000)), api.Note{Window: 10 * one, Thresh: greatest, Rate: 200000, Rto: 300000, Part: api.PSlow})
}

// aRound sends as much as the window lets, all of which is told of, segment by segment, first with one time there and back, then with another.
func aRound(t *testing.T, s api.State, first, rtt int) api.State {
	t.Helper()
	segs := s.Window / one
	s = played(t, s, send(s.Now+1, segs*s.Config.Seg))
	for i := range segs {
		if i > 0 {
			first = rtt
		}
		s = played(t, s, ack(s.Now+1, s.Config.Seg, first))
	}
	return s
}

// P21.4: slow start that ends by times there and back: a quarter as fast from the eighth one on that is an eighth longer, and over behind five rounds more.
func TestSlowEnds(t *testing.T) {
	c := usual()
	c.First, c.Burst = 12, 1000
	s, _ := engine.New(c)
	for i, r := range []struct {
		first, rtt, window, thresh, rounds int
		part                               int
	}{
		{80000, 80000, 24 * one, greatest, 0, api.PSlow},
		// 8 by a whole segment, of which the first one is still of the round ahead; 16 by a quarter of one.
		{80000, 90000, 36 * one, greatest, 1, api.PGentle},
		{90000, 90000, 45 * one, greatest, 3, api.PGentle},
		// 44 by a quarter; with the last one it is over.
		{90000, 90000, 56 * one, 56 * one, 0, api.PCalm},
	} {
		s = aRound(t, s, r.first, r.rtt)
		if n := engine.Look(s); n.Window != r.window || n.Thresh != r.thresh || s.Hystart.Rounds != r.rounds || n.Part != r.part {
			t.Errorf("round %d: %+v of %+v", i, n, s)
		}
	}
	if s.Hystart != (api.Hystart{Last: 90000, Done: true}) || s.Epoch.On {
		t.Errorf("%+v", s)
	}
}

// P21.1 to P21.5: many at once answer what one does: nothing is kept from call to call.
func TestGoroutines(t *testing.T) {
	states, next := some(), stirred(4)
	var events []api.Event
	for i := range 200 {
		events = append(events, stirredEvent(next, states[i%len(states)]))
	}
	var all sync.WaitGroup
	wrong := make([]int, 8)
	for hand := range wrong {
		all.Go(func() {
			for i, e := range events {
				s := states[(i+hand)%len(states)]
				got, err := engine.Do(s, e)
				want, wantErr := trueDo(s, e)
				if !same(got, want) || err != wantErr || engine.Look(s) != trueLook(s) || engine.Resolved(s) != trueResolved(s) || !engine.Check(s) {
					wrong[hand]++
				}
			}
		})
	}
	all.Wait()
	if slices.Max(wrong) > 0 {
		t.Errorf("wrong answers, hand by hand: %v", wrong)
	}
}
