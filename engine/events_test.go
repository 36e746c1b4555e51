package engine_test

import (
	"slices"
	"testing"

	"sawtooth/api"
	"sawtooth/bucket"
	"sawtooth/clock"
	"sawtooth/cubic"
	"sawtooth/cut"
	"sawtooth/engine"
	"sawtooth/epoch"
	"sawtooth/event"
	"sawtooth/flight"
	"sawtooth/frac"
	"sawtooth/grow"
	"sawtooth/guide"
	"sawtooth/hystart"
	"sawtooth/least"
	"sawtooth/rate"
	"sawtooth/reno"
	"sawtooth/round"
	"sawtooth/rto"
	"sawtooth/rtt"
)

// trueDo is what an event does, by the chapter's words in their order, with the calls of the other layers.
func trueDo(s api.State, e api.Event) (api.State, api.Errno) {
	if !trueCheck(s) {
		return s, api.ErrField
	}
	if err := event.Check(e); err != api.OK {
		return s, err
	}
	if e.At < s.Now {
		return s, api.ErrBack
	}
	n := changed(s, nil)
	n.Now = e.At
	ahead := rate.Of(s.Window, s.Config.Seg, s.Rtt, s.Window < s.Thresh)
	n.Bucket, _ = bucket.Fill(s.Bucket, e.At, ahead, s.Config.Burst*s.Config.Seg)
	err := api.OK
	switch e.Kind {
	case 1:
		n, err = trueAck(n, e)
	case 2:
		n.Flight, err = flight.Lose(n.Flight, e.Bytes)
		n = trueCut(n)
	case 3:
		n = trueCut(n)
	case 4:
		n, err = trueTimeout(n)
	case 5:
		n.Limited = true
	case 6:
		n, err = trueSend(n, e)
	}
	if err != api.OK {
		return s, err
	}
	return n, api.OK
}

func trueRecovers(s api.State) bool {
	return s.Flight.Sent-s.Flight.Out < s.Recover
}

func trueCut(s api.State) api.State {
	if trueRecovers(s) {
		return s
	}
	s.Window, s.High = cut.Loss(s.Window, s.High)
	s.Thresh = s.Window
	s.Recover = s.Flight.Sent
	s.Epoch = api.Epoch{}
	s.Hystart = api.Hystart{Done: true}
	return s
}

func trueTimeout(s api.State) (api.State, api.Errno) {
	if s.Flight.Out == 0 {
		return s, api.ErrAck
	}
	s.Window, s.Thresh, s.High = cut.Timeout(s.Window, s.High)
	s.Back = rto.Back(s.Rtt, s.Config, s.Back)
	s.Flight.Out = 0
	s.Recover = s.Flight.Sent
	s.Epoch = api.Epoch{}
	s.Hystart = api.Hystart{}
	s.Round = api.Round{End: s.Flight.Sent}
	return s, api.OK
}

func trueSend(s api.State, e api.Event) (api.State, api.Errno) {
	if s.Flight.Out == 0 {
		s.Window = guide.Idle(s.Window, s.Last, e.At, rto.Of(s.Rtt, s.Config, s.Back), s.Config)
		s.Epoch = guide.Pause(s.Epoch, s.Last, e.At)
	}
	room, _ := frac.Bytes(s.Window, s.Config.Seg)
	var err api.Errno
	if s.Flight, err = flight.Send(s.Flight, e.Bytes, room); err != api.OK {
		return s, err
	}
	if s.Bucket, err = bucket.Take(s.Bucket, e.Bytes); err != api.OK {
		return s, err
	}
	s.Last = e.At
	s.Limited = !guide.Used(s.Window, s.Flight.Out, s.Config.Seg)
	return s, api.OK
}

func trueAck(s api.State, e api.Event) (api.State, api.Errno) {
	var err api.Errno
	if s.Flight, err = flight.Ack(s.Flight, e.Bytes); err != api.OK {
		return s, err
	}
	s.Back = 0
	slow := s.Window < s.Thresh
	if e.Rtt > 0 {
		s.Rtt, _ = rtt.Sample(s.Rtt, e.Rtt)
		s.Least, _ = least.Put(s.Least, 10000000, e.At, e.Rtt)
		if slow {
			s.Hystart, _ = hystart.Sample(s.Hystart, e.Rtt)
		}
	}
	next, over, wrong := round.Ack(s.Round, s.Flight.Sent-s.Flight.Out, s.Flight.Sent)
	if wrong == api.OK {
		s.Round = next
		if over && slow {
			s.Hystart, _ = hystart.Round(s.Hystart)
		}
	}
	if trueRecovers(s) || s.Limited {
		return s, api.OK
	}
	told, _ := frac.Segs(e.Bytes, s.Config.Seg)
	if slow {
		s.Window = grow.Limit(grow.Slow(s.Window, told, s.Hystart), s.Config.Max*one)
		if s.Hystart.Done {
			s.Thresh = s.Window
		}
		return s, api.OK
	}
	if !s.Epoch.On {
		s.Epoch, _ = epoch.Begin(e.At, s.Window, s.High)
	}
	s.Epoch.Est = reno.Step(s.Epoch.Est, s.Epoch.Max, s.Window, told)
	target := cubic.Target(s.Epoch, clock.After(e.At, rtt.Mean(s.Rtt)), s.Window)
	s.Window = grow.Limit(grow.Both(s.Window, target, s.Epoch.Est, told), s.Config.Max*one)
	return s, api.OK
}

var spare = api.Mark{At: 7, N: 7}

// roomy is s with its marks in a list with room behind them, which is full of marks of its own.
func roomy(s api.State) api.State {
	l := make([]api.Mark, len(s.Least)+3)
	for i := range l {
		l[i] = spare
	}
	copy(l, s.Least)
	s.Least = l[:len(s.Least)]
	return s
}

// holdDo asks what an event does, whether what is given stays as it was, with its spare room, and whether the answer is in memory of its own.
func holdDo(t *testing.T, s api.State, e api.Event) api.State {
	t.Helper()
	want, wantErr := trueDo(s, e)
	given := roomy(s)
	got, err := engine.Do(given, e)
	if !same(got, want) || err != wantErr {
		t.Fatalf("Do(%+v, %+v):\n%+v, %v, not\n%+v, %v", s, e, got, err, want, wantErr)
	}
	holdApart(t, s, given, got)
	if !same(got, want) {
		t.Fatalf("Do(%+v, %+v): its answer is not in memory of its own", s, e)
	}
	return got
}

// holdApart writes to all marks that are given, and to those behind them, and then to all that are answered.
func holdApart(t *testing.T, s, given, got api.State) {
	t.Helper()
	kept := changed(got, nil)
	whole := given.Least[:cap(given.Least)]
	if !same(given, s) || slices.ContainsFunc(whole[len(s.Least):], func(m api.Mark) bool { return m != spare }) {
		t.Fatalf("%+v is %+v behind Do, and %v behind its marks", s, given, whole)
	}
	for i := range whole {
		whole[i] = api.Mark{At: -1, N: -1}
	}
	if !same(got, kept) {
		t.Fatalf("%+v is %+v behind writing to what was given", kept, got)
	}
	answered := changed(got, nil)
	for i := range got.Least[:cap(got.Least)] {
		got.Least[:cap(got.Least)][i] = api.Mark{At: -2, N: -2}
	}
	_ = append(got.Least, api.Mark{At: -3, N: -3})
	if slices.ContainsFunc(whole, func(m api.Mark) bool { return m != api.Mark{At: -1, N: -1} }) {
		t.Fatalf("%v behind writing to what was answered", whole)
	}
	copy(got.Least, answered.Least)
}

// row is an event, and what it changes, beside Now and the bucket's At: the buckets here are full, unless a row says otherwise.
type row struct {
	name   string
	s      api.State
	e      api.Event
	err    api.Errno
	change func(s *api.State)
}

func holdRows(t *testing.T, rows []row) {
	t.Helper()
	for _, r := range rows {
		want := changed(r.s, nil)
		if r.err == api.OK {
			want.Now, want.Bucket.At = r.e.At, r.e.At
			want = changed(want, r.change)
		}
		got, err := engine.Do(r.s, r.e)
		if !same(got, want) || err != r.err {
			t.Errorf("%s: Do(%+v, %+v):\n%+v, %v, not\n%+v, %v", r.name, r.s, r.e, got, err, want, r.err)
		}
		holdDo(t, r.s, r.e)
	}
}

func send(at, bytes int) api.Event { return api.Event{Kind: api.VSend, At: at, Bytes: bytes} }
func loss(at, bytes int) api.Event { return api.Event{Kind: api.VLoss, At: at, Bytes: bytes} }
func ecn(at int) api.Event         { return api.Event{Kind: api.VEcn, At: at} }
func timeout(at int) api.Event     { return api.Event{Kind: api.VTimeout, At: at} }
func idle(at int) api.Event        { return api.Event{Kind: api.VIdle, At: at} }
func tick(at int) api.Event        { return api.Event{Kind: api.VTick, At: at} }
func ack(at, bytes, rtt int) api.Event {
	return api.Event{Kind: api.VAck, At: at, Bytes: bytes, Rtt: rtt}
}

// P21.2: which error comes first, with several wrong at once, and all as it was beside each, whatever kind of event it is.
func TestErrors(t *testing.T) {
	odd := changed(flying(), func(s *api.State) { s.Back = 65 })
	holdRows(t, []row{
		{"nothing may be", odd, api.Event{Kind: 9, At: -1, Bytes: -1, Rtt: -1}, api.ErrField, nil},
		{"the empty state", api.State{}, tick(0), api.ErrField, nil},
		{"the empty state, of no kind", api.State{}, api.Event{}, api.ErrField, nil},
		{"a state, of no kind", odd, api.Event{Kind: 0, At: 1000000}, api.ErrField, nil},
		{"a state, of no time", odd, tick(-1), api.ErrField, nil},
		{"a state, back", odd, tick(0), api.ErrField, nil},
		{"a state, and more than the window", odd, send(1000000, maxBytes), api.ErrField, nil},
		{"a kind ahead of a time", flying(), api.Event{Kind: 8, At: -1, Bytes: 1, Rtt: 1}, api.ErrKind, nil},
		{"a kind ahead of a time that goes back", flying(), api.Event{Kind: 0, At: 999999}, api.ErrKind, nil},
		{"a time ahead of a field", flying(), api.Event{Kind: api.VTick, At: -1, Bytes: 1}, api.ErrTime, nil},
		{"a time behind the last one", flying(), tick(maxTime + 1), api.ErrTime, nil},
		{"a field ahead of a time that goes back", flying(), api.Event{Kind: api.VTick, At: 999999, Bytes: 1}, api.ErrField, nil},
		{"no bytes, and back", flying(), send(999999, 0), api.ErrField, nil},
		{"a time there and back that may not be", flying(), ack(1000000, 1000, maxRtt+1), api.ErrField, nil},
		{"back ahead of more than is out", flying(), ack(999999, 20001, 0), api.ErrBack, nil},
		{"back ahead of more than the window", flying(), send(999999, maxBytes), api.ErrBack, nil},
		{"back ahead of a loss of too much", flying(), loss(999999, 20001), api.ErrBack, nil},
		{"back ahead of a timeout of nothing", changed(fresh(), func(s *api.State) { s.Now = 5 }), timeout(4), api.ErrBack, nil},
		{"back, told", flying(), ack(0, 1000, 100000), api.ErrBack, nil},
		{"back, lost", flying(), loss(999999, 1000), api.ErrBack, nil},
		{"back, marked", flying(), ecn(999999), api.ErrBack, nil},
		{"back, late", flying(), timeout(999999), api.ErrBack, nil},
		{"back, idle", flying(), idle(999999), api.ErrBack, nil},
		{"back, sent", changed(flying(), func(s *api.State) { s.Window = 40 * one }), send(999999, 1000), api.ErrBack, nil},
		{"back, a tick", flying(), tick(999999), api.ErrBack, nil},
		{"the same time", flying(), tick(1000000), api.OK, nil},
		{"the last time", flying(), tick(maxTime), api.OK, nil},
	})
	for _, s := range append(some(), odd, api.State{}) {
		for kind := -1; kind <= 9; kind++ {
			for _, at := range near(0, s.Now, s.Last, maxTime, most, fewest) {
				for _, bytes := range []int{fewest, -1, 0, 1, 1000, s.Flight.Out, s.Flight.Out + 1, maxBytes, maxBytes + 1, most} {
					for _, rtt := range []int{fewest, -1, 0, 1, 100000, maxRtt, maxRtt + 1, most} {
						holdDo(t, s, api.Event{Kind: kind, At: at, Bytes: bytes, Rtt: rtt})
					}
				}
			}
		}
	}
}

// P21.2: what the bucket has by then, at the rate that was ahead of the event.
func TestBucket(t *testing.T) {
	drained := func(s api.State) api.State {
		return changed(s, func(s *api.State) { s.Bucket.Have = 0 })
	}
	has := func(have int) func(s *api.State) {
		return func(s *api.State) { s.Bucket.Have = have }
	}
	holdRows(t, []row{
		// 20 segments of 1000 bytes in a tenth of a second, twice as fast: 400000 bytes of a second.
		{"flying", drained(flying()), tick(1001000), api.OK, has(400000000)},
		{"at once", drained(flying()), tick(1000000), api.OK, has(0)},
		{"calm: 7 segments, and a quarter faster", drained(calm()), tick(1001000), api.OK, has(87500000)},
		{"nothing known", drained(fresh()), tick(1000), api.OK, has(200000000)},
		{"just full", drained(flying()), tick(1025000), api.OK, has(10000000000)},
		{"just not full", drained(flying()), tick(1024999), api.OK, has(9999600000)},
		{"long full", drained(flying()), tick(maxTime), api.OK, has(10000000000)},
		{"of what burst there is", changed(drained(flying()), func(s *api.State) { s.Config.Burst = 3 }), tick(2000000), api.OK, has(3000000000)},
		{"of what segments there are", changed(drained(flying()), func(s *api.State) { s.Config.Seg = 500 }), tick(2000000), api.OK, has(5000000000)},
		{"fuller than full", changed(flying(), has(1<<60)), tick(2000000), api.OK, nil},
		{"from where it was, not from Now", changed(drained(flying()), func(s *api.State) { s.Bucket.At = 999000 }), tick(1001000), api.OK, has(800000000)},
		{"idle", drained(flying()), idle(1001000), api.OK, func(s *api.State) { s.Limited, s.Bucket.Have = true, 400000000 }},
		{"late: as fast as it was", drained(flying()), timeout(1001000), api.OK, func(s *api.State) {
			lateFlying(s)
			s.Bucket.Have = 400000000
		}},
		{"marked: as fast as it was", drained(flying()), ecn(1001000), api.OK, func(s *api.State) {
			cutFlying(s)
			s.Bucket.Have = 400000000
		}},
		{"lost: as fast as it was", drained(flying()), loss(1001000, 1000), api.OK, func(s *api.State) {
			cutFlying(s)
			s.Flight.Out, s.Bucket.Have = 19000, 400000000
		}},
		{"told: as fast as it was", drained(flying()), ack(1001000, 1000, 0), api.OK, func(s *api.State) {
			s.Flight, s.Window = api.Flight{Sent: 100000, Told: 81000, Out: 19000}, 21*one
			s.Bucket.Have = 400000000
		}},
		{"sent behind a pause: as fast as it was", changed(drained(flying()), landed), send(1200000, 10000), api.OK, func(s *api.State) {
			s.Window, s.Last, s.Flight = 10*one, 1200000, api.Flight{Sent: 110000, Told: 100000, Out: 10000}
		}},
		{"sent behind a pause: not faster", changed(drained(flying()), func(s *api.State) { landed(s); s.Last = 0 }), send(1024999, 10000), api.ErrWindow, nil},
		{"sent behind a pause: just as fast", changed(drained(flying()), func(s *api.State) { landed(s); s.Last = 0 }), send(1025000, 10000), api.OK, func(s *api.State) {
			s.Window, s.Last, s.Flight = 10*one, 1025000, api.Flight{Sent: 110000, Told: 100000, Out: 10000}
		}},
	})
}

// landed is what flying is, once all that is out is told of.
func landed(s *api.State) {
	s.Flight = api.Flight{Sent: 100000, Told: 100000}
}

// lateFlying is what a timeout leaves of flying, and cutFlying what a loss leaves.
func lateFlying(s *api.State) {
	s.Window, s.Thresh, s.High = 2*one, 14*one, 20*one
	s.Back = 1
	s.Flight = api.Flight{Sent: 100000, Told: 80000}
	s.Recover = 100000
	s.Hystart = api.Hystart{}
	s.Round = api.Round{End: 100000}
}

func cutFlying(s *api.State) {
	s.Window, s.Thresh, s.High = 14*one, 14*one, 20*one
	s.Recover = 100000
	s.Hystart = api.Hystart{Done: true}
}

// P21.3: what is sent, with something on its way: no pause counts.
func TestSend(t *testing.T) {
	sent := func(flown api.Flight, have int, limited bool) func(s *api.State) {
		return func(s *api.State) {
			s.Flight, s.Bucket.Have, s.Limited, s.Last = flown, have, limited, s.Now
		}
	}
	flown := func(out int) api.State {
		return changed(flying(), func(s *api.State) {
			s.Flight = api.Flight{Sent: 100000, Told: 90000 - out, Out: out}
		})
	}
	on := func(s *api.State) { s.Epoch = risen().Epoch }
	holdRows(t, []row{
		{"some, of an empty way", fresh(), send(0, 5000), api.OK, sent(api.Flight{Sent: 5000, Out: 5000}, 5000000000, false)},
		{"less than half", fresh(), send(0, 4999), api.OK, sent(api.Flight{Sent: 4999, Out: 4999}, 5001000000, true)},
		{"a byte", fresh(), send(0, 1), api.OK, sent(api.Flight{Sent: 1, Out: 1}, 9999000000, true)},
		{"all", fresh(), send(0, 10000), api.OK, sent(api.Flight{Sent: 10000, Out: 10000}, 0, false)},
		{"more than the window, and than the bucket", fresh(), send(0, 10001), api.ErrWindow, nil},
		{"more than the window alone", changed(fresh(), func(s *api.State) { s.Bucket.Have = 20000000000 }), send(0, 10001), api.ErrWindow, nil},
		{"more than the bucket alone", changed(fresh(), func(s *api.State) { s.Bucket.Have = 5000000000 }), send(0, 5001), api.ErrWindow, nil},
		{"just what the bucket has", changed(fresh(), func(s *api.State) { s.Bucket.Have = 5000000000 }), send(0, 5000), api.OK, sent(api.Flight{Sent: 5000, Out: 5000}, 0, false)},
		{"beside what is out", flown(12000), send(1000000, 8000), api.OK, sent(api.Flight{Sent: 108000, Told: 78000, Out: 20000}, 2000000000, false)},
		{"beside what is out, a byte too many", flown(12000), send(1000000, 8001), api.ErrWindow, nil},
		{"half of the window is out then", flown(4000), send(1000000, 6000), api.OK, sent(api.Flight{Sent: 106000, Told: 86000, Out: 10000}, 4000000000, false)},
		{"a byte less is out then", flown(4000), send(1000000, 5999), api.OK, sent(api.Flight{Sent: 105999, Told: 86000, Out: 9999}, 4001000000, true)},
		{"limited no more", changed(flown(4000), func(s *api.State) { s.Limited = true }), send(1000000, 6000), api.OK,
			sent(api.Flight{Sent: 106000, Told: 86000, Out: 10000}, 4000000000, false)},
		{"no pause, long behind the last one", changed(flown(1), on), send(900000000, 9999), api.OK,
			sent(api.Flight{Sent: 109999, Told: 89999, Out: 10000}, 1000000, false)},
		{"while it recovers", changed(flown(12000), func(s *api.State) { s.Recover = 100000 }), send(1000000, 1), api.OK,
			sent(api.Flight{Sent: 100001, Told: 78000, Out: 12001}, 9999000000, false)},
		{"a window that is not whole bytes", changed(flown(12000), func(s *api.State) { s.Window = 20*one - 1 }), send(1000000, 8000), api.ErrWindow, nil},
		{"a window that is not whole bytes, one less", changed(flown(12000), func(s *api.State) { s.Window = 20*one - 1 }), send(1000000, 7999), api.OK,
			sent(api.Flight{Sent: 107999, Told: 78000, Out: 19999}, 2001000000, false)},
		{"more than can be counted", changed(flown(0), func(s *api.State) { s.Flight = api.Flight{Sent: most, Told: most - 1, Out: 1} }), send(1000000, 1), api.ErrOver, nil},
		{"more than can be counted, and than the window", changed(flown(0), func(s *api.State) { s.Flight = api.Flight{Sent: most - 5, Told: 7} }), send(1000000, maxBytes), api.ErrOver, nil},
		{"more than can be counted, and than the bucket", changed(flown(0), func(s *api.State) { s.Flight, s.Bucket.Have = api.Flight{Sent: most}, 0 }), send(1000000, 1), api.ErrOver, nil},
		{"all that can be counted", changed(flown(0), func(s *api.State) { s.Flight = api.Flight{Sent: most - 5, Told: 7, Out: 1} }), send(1000000, 5), api.OK,
			sent(api.Flight{Sent: most, Told: 7, Out: 6}, 9995000000, true)},
	})
}

// P21.3: what is sent with nothing on its way, behind pauses that are none, short, and long.
func TestPause(t *testing.T) {
	// resting is calm with 100 segments, in an epoch, with nothing out; its timeout is 200000.
	resting := func(change func(s *api.State)) api.State {
		return changed(risen(), func(s *api.State) {
			landed(s)
			s.Window = 100 * one
			if change != nil {
				change(s)
			}
		})
	}
	slept := func(window, start int, limited bool) func(s *api.State) {
		return func(s *api.State) {
			s.Window, s.Epoch.Start, s.Limited, s.Last = window, start, limited, s.Now
			s.Flight = api.Flight{Sent: 105000, Told: 100000, Out: 5000}
			s.Bucket.Have = 5000000000
		}
	}
	small := func(s *api.State) { s.Window, s.Config.Seg, s.Config.Burst = 5*one, 4000, 2 }
	holdRows(t, []row{
		{"no pause", resting(func(s *api.State) { s.Last = 1000000 }), send(1000000, 5000), api.OK, slept(100*one, 1000000, true)},
		{"a pause of one", resting(func(s *api.State) { s.Last = 1000000 }), send(1000001, 5000), api.OK, slept(100*one, 1000001, true)},
		{"a short pause", resting(nil), send(1000000, 5000), api.OK, slept(100*one, 1100000, true)},
		{"a pause as long as the timeout", resting(nil), send(1100000, 5000), api.OK, slept(100*one, 1200000, true)},
		{"a pause longer by one", resting(nil), send(1100001, 5000), api.OK, slept(10*one, 1200001, false)},
		{"a pause behind a timeout that is doubled", resting(func(s *api.State) { s.Back = 3 }), send(2500000, 5000), api.OK, slept(100*one, 2600000, true)},
		{"a pause longer than that", resting(func(s *api.State) { s.Back = 3 }), send(2500001, 5000), api.OK, slept(10*one, 2600001, false)},
		{"a pause of nothing known", resting(func(s *api.State) { s.Rtt = api.Rtt{} }), send(1900000, 5000), api.OK, slept(100*one, 2000000, true)},
		{"a pause longer than that", resting(func(s *api.State) { s.Rtt = api.Rtt{} }), send(1900001, 5000), api.OK, slept(10*one, 2000001, false)},
		{"a pause up to the last time", resting(nil), send(maxTime, 5000), api.OK, slept(10*one, maxTime, false)},
		{"a pause, without an epoch", resting(func(s *api.State) { s.Epoch = api.Epoch{} }), send(1100001, 5000), api.OK, slept(10*one, 0, false)},
		{"a pause leaves less than the first window", resting(small), send(1100001, 5000), api.OK, slept(5*one, 1200001, true)},
		{"a pause that makes it slow", resting(func(s *api.State) { s.Thresh = 50 * one }), send(1100001, 5000), api.OK, slept(10*one, 1200001, false)},
		{"more than a pause leaves", resting(func(s *api.State) { s.Bucket.Have = 20000000000 }), send(1100001, 10001), api.ErrWindow, nil},
		{"more than a pause would leave", resting(func(s *api.State) { s.Bucket.Have = 20000000000 }), send(1100000, 10001), api.OK, func(s *api.State) {
			slept(100*one, 1200000, true)(s)
			s.Flight, s.Bucket.Have = api.Flight{Sent: 110001, Told: 100000, Out: 10001}, 9999000000
		}},
		{"a pause, and more than can be counted", resting(func(s *api.State) { s.Flight = api.Flight{Sent: most, Told: most} }), send(1100001, 1), api.ErrOver, nil},
		{"a pause, and more than the bucket has", resting(func(s *api.State) { s.Config.Burst, s.Bucket.Have = 4, 0 }), send(1100001, 4001), api.ErrWindow, nil},
		{"a pause while something is out", resting(func(s *api.State) { s.Flight = api.Flight{Sent: 100000, Told: 99999, Out: 1} }), send(1100001, 5000), api.OK, func(s *api.State) {
			slept(100*one, 1000000, true)(s)
			s.Flight = api.Flight{Sent: 105000, Told: 99999, Out: 5001}
		}},
	})
}

// P21.4: what is told of in slow start, by the Hystart, the round, and what it recovers from.
func TestAckSlow(t *testing.T) {
	flown := func(bytes, window int) func(s *api.State) {
		return func(s *api.State) {
			s.Flight.Told += bytes
			s.Flight.Out -= bytes
			s.Window = window
		}
	}
	also := func(first, second func(s *api.State)) func(s *api.State) {
		return func(s *api.State) {
			first(s)
			second(s)
		}
	}
	over := func(last int) func(s *api.State) {
		return func(s *api.State) {
			s.Round = api.Round{ID: 4, End: 100000}
			s.Hystart.Last, s.Hystart.Least, s.Hystart.Many = last, 0, 0
		}
	}
	holdRows(t, []row{
		{"a segment", flying(), ack(1000000, 1000, 0), api.OK, flown(1000, 21*one)},
		{"a byte", flying(), ack(1000000, 1, 0), api.OK, flown(1, 20*one+65)},
		{"8 segments", flying(), ack(1000000, 8000, 0), api.OK, flown(8000, 28*one)},
		{"more than 8", flying(), ack(1000000, 9999, 0), api.OK, flown(9999, 28*one)},
		{"a round that just ends", flying(), ack(1000000, 10000, 0), api.OK, also(flown(10000, 28*one), over(115000))},
		{"a round that ends with all", flying(), ack(1000000, 20000, 0), api.OK, also(flown(20000, 28*one), over(115000))},
		{"other segments", changed(flying(), func(s *api.State) { s.Config.Seg = 1500; s.Config.Burst = 5 }), ack(1000000, 1000, 0), api.OK, flown(1000, 20*one+43690)},
		{"more than is out", flying(), ack(1000000, 20001, 0), api.ErrAck, nil},
		{"more than is out, with a time", flying(), ack(1000000, 20001, 100000), api.ErrAck, nil},
		{"more than is out, and late", changed(flying(), func(s *api.State) { s.Back = 3 }), ack(1000000, maxBytes, 0), api.ErrAck, nil},
		{"nothing is out", changed(flying(), landed), ack(1000000, 1, 0), api.ErrAck, nil},
		{"late no more", changed(flying(), func(s *api.State) { s.Back = 3 }), ack(1000000, 1000, 0), api.OK, also(flown(1000, 21*one), func(s *api.State) { s.Back = 0 })},
		{"up to the greatest window", changed(flying(), func(s *api.State) { s.Window = 999 * one }), ack(1000000, 1000, 0), api.OK, flown(1000, 1000*one)},
		{"not beyond it", changed(flying(), func(s *api.State) { s.Window = 999*one + 1 }), ack(1000000, 1000, 0), api.OK, flown(1000, 1000*one)},
		{"at it", changed(flying(), func(s *api.State) { s.Window = 1000 * one }), ack(1000000, 8000, 0), api.OK, flown(8000, 1000*one)},
		{"at the greatest of all", changed(flying(), func(s *api.State) { s.Config.Max, s.Window = maxSegs, greatest-1 }), ack(1000000, 8000, 0), api.OK, flown(8000, greatest)},
		{"beyond Thresh", changed(flying(), func(s *api.State) { s.Thresh = 20*one + 1 }), ack(1000000, 8000, 0), api.OK, flown(8000, 28*one)},
		{"recovers", changed(flying(), func(s *api.State) { s.Recover = 81001 }), ack(1000000, 1000, 0), api.OK, flown(1000, 20*one)},
		{"just no more", changed(flying(), func(s *api.State) { s.Recover = 81000 }), ack(1000000, 1000, 0), api.OK, flown(1000, 21*one)},
		{"recovers, and a round is over", changed(flying(), func(s *api.State) { s.Recover = 100000 }), ack(1000000, 10000, 0), api.OK, also(flown(10000, 20*one), over(115000))},
		{"limited", changed(flying(), func(s *api.State) { s.Limited = true }), ack(1000000, 1000, 0), api.OK, flown(1000, 20*one)},
		{"limited, late, and a round is over", changed(flying(), func(s *api.State) { s.Limited, s.Back = true, 9 }), ack(1000000, 10000, 0), api.OK,
			also(also(flown(10000, 20*one), over(115000)), func(s *api.State) { s.Back = 0 })},
		{"a round that can't be followed", changed(flying(), func(s *api.State) { s.Round = api.Round{ID: most} }), ack(1000000, 1000, 0), api.OK, flown(1000, 21*one)},
		{"a round that can't be followed, and is not over", changed(flying(), func(s *api.State) { s.Round = api.Round{ID: most, End: most} }), ack(1000000, 1000, 0), api.OK, flown(1000, 21*one)},
		{"a round that can just be followed", changed(flying(), func(s *api.State) { s.Round = api.Round{ID: most - 1} }), ack(1000000, 1000, 0), api.OK,
			also(also(flown(1000, 21*one), over(115000)), func(s *api.State) { s.Round.ID = most })},
		{"gentle: a quarter", gentle(), ack(1000000, 1000, 0), api.OK, flown(1000, 20*one+16384)},
		{"gentle: a quarter of 8", gentle(), ack(1000000, 9999, 0), api.OK, flown(9999, 22*one)},
		{"gentle, and a round of the fifth ends: done", gentle(), ack(1000000, 10000, 0), api.OK, also(flown(10000, 20*one), func(s *api.State) {
			s.Round = api.Round{ID: 4, End: 100000}
			s.Hystart = api.Hystart{Last: 115000, Done: true}
			s.Thresh = 20 * one
		})},
		{"gentle, done, but it recovers: slow start goes on", changed(gentle(), func(s *api.State) { s.Recover = 100000 }), ack(1000000, 10000, 0), api.OK, also(flown(10000, 20*one), func(s *api.State) {
			s.Round = api.Round{ID: 4, End: 100000}
			s.Hystart = api.Hystart{Last: 115000, Done: true}
		})},
		{"gentle, a round of the fourth ends", changed(gentle(), func(s *api.State) { s.Hystart.Rounds = 3 }), ack(1000000, 10000, 0), api.OK, also(flown(10000, 22*one), func(s *api.State) {
			over(115000)(s)
			s.Hystart.Rounds = 4
		})},
		{"done, and still slow", changed(flying(), func(s *api.State) { s.Hystart = api.Hystart{Done: true} }), ack(1000000, 1000, 0), api.OK, also(flown(1000, 20*one), func(s *api.State) { s.Thresh = 20 * one })},
		{"done, and limited: slow start goes on", changed(flying(), func(s *api.State) { s.Hystart, s.Limited = api.Hystart{Done: true}, true }), ack(1000000, 1000, 0), api.OK, flown(1000, 20*one)},
	})
}

// P21.4: what is told of with a time there and back.
func TestAckTime(t *testing.T) {
	told := func(change func(s *api.State)) func(s *api.State) {
		return func(s *api.State) {
			s.Flight.Told += 1000
			s.Flight.Out -= 1000
			s.Window += one
			change(s)
		}
	}
	holdRows(t, []row{
		{"a first one", changed(flying(), func(s *api.State) { s.Rtt, s.Least, s.Hystart = api.Rtt{}, nil, api.Hystart{} }), ack(1000000, 1000, 100000), api.OK, told(func(s *api.State) {
			s.Rtt = api.Rtt{Has: true, Mean: 800000, Far: 200000}
			s.Least = []api.Mark{{At: 1000000, N: 100000}}
			s.Hystart = api.Hystart{Least: 100000, Many: 1}
		})},
		{"a greater one", flying(), ack(1000000, 1000, 111000), api.OK, told(func(s *api.State) {
			s.Rtt = api.Rtt{Has: true, Mean: 811000, Far: 71000}
			s.Least = []api.Mark{{At: 500000, N: 90000}, {At: 800000, N: 95000}, {At: 1000000, N: 111000}}
			s.Hystart = api.Hystart{Last: 100000, Least: 111000, Many: 8}
		})},
		{"a lesser one", flying(), ack(1000000, 1000, 92000), api.OK, told(func(s *api.State) {
			s.Rtt = api.Rtt{Has: true, Mean: 792000, Far: 68000}
			s.Least = []api.Mark{{At: 500000, N: 90000}, {At: 1000000, N: 92000}}
			s.Hystart = api.Hystart{Last: 100000, Least: 92000, Many: 8}
		})},
		{"the least one", flying(), ack(1000000, 1000, 1), api.OK, told(func(s *api.State) {
			s.Rtt = api.Rtt{Has: true, Mean: 700001, Far: 159999}
			s.Least = []api.Mark{{At: 1000000, N: 1}}
			s.Hystart = api.Hystart{Last: 100000, Least: 1, Many: 8}
		})},
		{"the greatest one", changed(flying(), func(s *api.State) { s.Hystart.Many = 1 }), ack(1000000, 1000, maxRtt), api.OK, told(func(s *api.State) {
			s.Rtt = api.Rtt{Has: true, Mean: 1074441824, Far: 1073701824}
			s.Least = []api.Mark{{At: 500000, N: 90000}, {At: 800000, N: 95000}, {At: 1000000, N: maxRtt}}
			s.Hystart.Many = 2
		})},
		{"ten seconds behind a mark", changed(flying(), func(s *api.State) { s.Hystart = api.Hystart{} }), ack(10500000, 1000, 100000), api.OK, told(func(s *api.State) {
			s.Rtt.Far = 60000
			s.Least = []api.Mark{{At: 500000, N: 90000}, {At: 800000, N: 95000}, {At: 10500000, N: 100000}}
			s.Hystart = api.Hystart{Least: 100000, Many: 1}
		})},
		{"longer behind it", changed(flying(), func(s *api.State) { s.Hystart = api.Hystart{} }), ack(10500001, 1000, 100000), api.OK, told(func(s *api.State) {
			s.Rtt.Far = 60000
			s.Least = []api.Mark{{At: 800000, N: 95000}, {At: 10500001, N: 100000}}
			s.Hystart = api.Hystart{Least: 100000, Many: 1}
		})},
		{"gentle from now on, and so a quarter", flying(), ack(1000000, 1000, 120000), api.OK, told(func(s *api.State) {
			s.Window = 20*one + 16384
			s.Rtt = api.Rtt{Has: true, Mean: 820000, Far: 80000}
			s.Least = []api.Mark{{At: 500000, N: 90000}, {At: 800000, N: 95000}, {At: 1000000, N: 120000}}
			s.Hystart = api.Hystart{Last: 100000, Least: 115000, Many: 8, Gentle: true, Base: 115000}
		})},
		{"gentle from now on, and a round is over", changed(flying(), func(s *api.State) { s.Round.End = 81000 }), ack(1000000, 1000, 120000), api.OK, told(func(s *api.State) {
			s.Window = 20*one + 16384
			s.Rtt = api.Rtt{Has: true, Mean: 820000, Far: 80000}
			s.Least = []api.Mark{{At: 500000, N: 90000}, {At: 800000, N: 95000}, {At: 1000000, N: 120000}}
			s.Hystart = api.Hystart{Last: 115000, Gentle: true, Base: 115000, Rounds: 1}
			s.Round = api.Round{ID: 4, End: 100000}
		})},
		{"gentle no more, and so all", gentle(), ack(1000000, 1000, 100000), api.OK, told(func(s *api.State) {
			s.Rtt.Far = 60000
			s.Least = []api.Mark{{At: 500000, N: 90000}, {At: 800000, N: 95000}, {At: 1000000, N: 100000}}
			s.Hystart = api.Hystart{Last: 100000, Least: 100000, Many: 8}
		})},
		{"recovers: it counts all the same", changed(flying(), func(s *api.State) { s.Recover = 100000 }), ack(1000000, 1000, 120000), api.OK, told(func(s *api.State) {
			s.Window = 20 * one
			s.Rtt = api.Rtt{Has: true, Mean: 820000, Far: 80000}
			s.Least = []api.Mark{{At: 500000, N: 90000}, {At: 800000, N: 95000}, {At: 1000000, N: 120000}}
			s.Hystart = api.Hystart{Last: 100000, Least: 115000, Many: 8, Gentle: true, Base: 115000}
		})},
		{"limited: it counts all the same", changed(flying(), func(s *api.State) { s.Limited = true }), ack(1000000, 1000, 120000), api.OK, told(func(s *api.State) {
			s.Window = 20 * one
			s.Rtt = api.Rtt{Has: true, Mean: 820000, Far: 80000}
			s.Least = []api.Mark{{At: 500000, N: 90000}, {At: 800000, N: 95000}, {At: 1000000, N: 120000}}
			s.Hystart = api.Hystart{Last: 100000, Least: 115000, Many: 8, Gentle: true, Base: 115000}
		})},
		{"calm: not for the Hystart", changed(flying(), func(s *api.State) { s.Thresh, s.Round.End, s.Limited = s.Window, 81000, true }), ack(1000000, 1000, 120000), api.OK, told(func(s *api.State) {
			s.Window = 20 * one
			s.Rtt = api.Rtt{Has: true, Mean: 820000, Far: 80000}
			s.Least = []api.Mark{{At: 500000, N: 90000}, {At: 800000, N: 95000}, {At: 1000000, N: 120000}}
			s.Round = api.Round{ID: 4, End: 100000}
		})},
		{"too much is told of", flying(), ack(1000000, 20001, 1), api.ErrAck, nil},
	})
}

// P21.4: what is told of behind slow start, by both laws: the numbers were worked out by hand.
func TestAckCalm(t *testing.T) {
	risenBy := func(bytes, window int, e api.Epoch) func(s *api.State) {
		return func(s *api.State) {
			s.Flight.Told += bytes
			s.Flight.Out -= bytes
			s.Window, s.Epoch = window, e
		}
	}
	begun := func(start, est int) api.Epoch {
		return api.Epoch{On: true, Start: start, First: 458752, Max: 655360, K: 1957433, Est: est}
	}
	longer := func(change func(s *api.State)) func(s *api.State) {
		return func(s *api.State) {
			s.Rtt = api.Rtt{Has: true, Mean: 880000, Far: 140000}
			s.Least = append(s.Least, api.Mark{At: s.Now, N: 180000})
			change(s)
		}
	}
	many := func(window int) api.State {
		return changed(risen(), func(s *api.State) { s.Window = window })
	}
	holdRows(t, []row{
		{"an epoch begins", calm(), ack(1000000, 1000, 0), api.OK, risenBy(1000, 463708, begun(1000000, 463708))},
		{"an epoch begins, later", calm(), ack(5000000, 1000, 0), api.OK, risenBy(1000, 463708, begun(5000000, 463708))},
		{"an epoch begins, with a time", calm(), ack(1000000, 1000, 180000), api.OK, longer(risenBy(1000, 463708, begun(1000000, 463708)))},
		{"an epoch begins, above where it was", changed(calm(), func(s *api.State) { s.High = 0 }), ack(1000000, 1000, 0), api.OK,
			risenBy(1000, 468114, api.Epoch{On: true, Start: 1000000, First: 458752, Max: 458752, Est: 468114})},
		{"it is On", risen(), ack(1000000, 1000, 0), api.OK, risenBy(1000, 468664, begun(1000000, 468664))},
		{"the law", risen(), ack(3000000, 1000, 0), api.OK, risenBy(1000, 486849, begun(1000000, 468664))},
		{"the law, at a longer time", risen(), ack(3000000, 1000, 180000), api.OK, longer(risenBy(1000, 486852, begun(1000000, 468664)))},
		{"the law, with more", risen(), ack(3000000, 1500, 0), api.OK, risenBy(1500, 500898, begun(1000000, 471142))},
		{"the law, at most half more", risen(), ack(8000000, 1000, 0), api.OK, risenBy(1000, 491520, begun(1000000, 468664))},
		{"the old law, where that has more", changed(risen(), func(s *api.State) { s.Epoch.Est = 12 * one }), ack(8000000, 1000, 0), api.OK, risenBy(1000, 795794, begun(1000000, 795794))},
		{"the last time", risen(), ack(maxTime, 1000, 0), api.OK, risenBy(1000, 491520, begun(1000000, 468664))},
		{"an epoch that begins later", changed(risen(), func(s *api.State) { s.Epoch.Start = maxTime }), ack(1000000, 1000, 0), api.OK, risenBy(1000, 468664, begun(maxTime, 468664))},
		{"nothing known", changed(risen(), func(s *api.State) { s.Rtt, s.Epoch = api.Rtt{}, api.Epoch{} }), ack(1000000, 1000, 0), api.OK, risenBy(1000, 463708, begun(1000000, 463708))},
		{"at the greatest window", many(1000 * one), ack(100000000, 1000, 0), api.OK, risenBy(1000, 65536000, begun(1000000, 463742))},
		{"just below it", many(1000*one - 1), ack(100000000, 1000, 0), api.OK, risenBy(1000, 65536000, begun(1000000, 463742))},
		{"recovers", changed(risen(), func(s *api.State) { s.Recover = 81001 }), ack(3000000, 1000, 0), api.OK, risenBy(1000, 458752, begun(1000000, 463708))},
		{"just no more", changed(risen(), func(s *api.State) { s.Recover = 81000 }), ack(3000000, 1000, 0), api.OK, risenBy(1000, 486849, begun(1000000, 468664))},
		{"recovers, without an epoch", changed(calm(), func(s *api.State) { s.Recover = 81001 }), ack(3000000, 1000, 0), api.OK, risenBy(1000, 458752, api.Epoch{})},
		{"limited", changed(risen(), func(s *api.State) { s.Limited = true }), ack(3000000, 1000, 0), api.OK, risenBy(1000, 458752, begun(1000000, 463708))},
		{"limited, without an epoch", changed(calm(), func(s *api.State) { s.Limited = true }), ack(3000000, 1000, 0), api.OK, risenBy(1000, 458752, api.Epoch{})},
		{"late no more, and a round is over", changed(risen(), func(s *api.State) { s.Back, s.Round.End = 7, 81000 }), ack(3000000, 1000, 0), api.OK, func(s *api.State) {
			risenBy(1000, 486849, begun(1000000, 468664))(s)
			s.Back, s.Round = 0, api.Round{ID: 4, End: 100000}
		}},
		{"a Hystart that is not done stays", changed(risen(), func(s *api.State) { s.Hystart, s.Round.End = api.Hystart{Last: 5, Least: 6, Many: 7}, 81000 }), ack(3000000, 1000, 0), api.OK, func(s *api.State) {
			risenBy(1000, 486849, begun(1000000, 468664))(s)
			s.Round = api.Round{ID: 4, End: 100000}
		}},
		{"just slow, in an epoch", changed(risen(), func(s *api.State) { s.Thresh, s.Hystart = 7*one+1, api.Hystart{} }), ack(3000000, 1000, 0), api.OK, risenBy(1000, 8*one, begun(1000000, 463708))},
		{"more than is out", risen(), ack(3000000, 20001, 0), api.ErrAck, nil},
	})
}

// P21.5: losses and marks, which cut, unless it recovers.
func TestCut(t *testing.T) {
	recovering := func(n int) api.State {
		return changed(flying(), func(s *api.State) { s.Recover = n })
	}
	lost := func(n int, change func(s *api.State)) func(s *api.State) {
		return func(s *api.State) {
			s.Flight.Out -= n
			if change != nil {
				change(s)
			}
		}
	}
	to := func(window, high int) func(s *api.State) {
		return func(s *api.State) {
			s.Window, s.Thresh, s.High, s.Recover = window, window, high, 100000
			s.Epoch, s.Hystart = api.Epoch{}, api.Hystart{Done: true}
		}
	}
	high := func(n int) api.State {
		return changed(flying(), func(s *api.State) { s.High = n })
	}
	window := func(n int) api.State {
		return changed(flying(), func(s *api.State) { s.Window = n })
	}
	holdRows(t, []row{
		{"lost", flying(), loss(1000000, 1000), api.OK, lost(1000, cutFlying)},
		{"lost, later", flying(), loss(7000000, 1000), api.OK, lost(1000, cutFlying)},
		{"all is lost", flying(), loss(1000000, 20000), api.OK, lost(20000, cutFlying)},
		{"more than is out", flying(), loss(1000000, 20001), api.ErrAck, nil},
		{"more than is out, and it recovers", recovering(100000), loss(1000000, 20001), api.ErrAck, nil},
		{"nothing is out", changed(flying(), landed), loss(1000000, 1), api.ErrAck, nil},
		{"lost, and it recovers", recovering(100000), loss(1000000, 1000), api.OK, lost(1000, nil)},
		{"lost, and it still recovers", recovering(81001), loss(1000000, 1000), api.OK, lost(1000, nil)},
		{"lost, and it recovers no more", recovering(81000), loss(1000000, 1000), api.OK, lost(1000, cutFlying)},
		{"lost, and it did not recover", recovering(80000), loss(1000000, 1000), api.OK, lost(1000, cutFlying)},
		{"marked", flying(), ecn(1000000), api.OK, cutFlying},
		{"marked, and it recovers", recovering(80001), ecn(1000000), api.OK, nil},
		{"marked, and it just does not", recovering(80000), ecn(1000000), api.OK, cutFlying},
		{"marked, with nothing out", changed(flying(), landed), ecn(1000000), api.OK, cutFlying},
		{"marked, with nothing sent", fresh(), ecn(5), api.OK, func(s *api.State) {
			to(7*one, 10*one)(s)
			s.Recover = 0
		}},
		{"lost, at 10 segments", window(10 * one), loss(1000000, 1), api.OK, lost(1, to(7*one, 10*one))},
		{"below where it was", high(25 * one), ecn(1000000), api.OK, to(14*one, 17*one)},
		{"just below where it was", high(20*one + 1), ecn(1000000), api.OK, to(14*one, 17*one)},
		{"just where it was", high(20 * one), ecn(1000000), api.OK, to(14*one, 20*one)},
		{"in an epoch", risen(), ecn(1000000), api.OK, to(321126, 389939)},
		{"gentle", gentle(), loss(1000000, 1), api.OK, lost(1, cutFlying)},
		{"limited", changed(flying(), func(s *api.State) { s.Limited, s.Back = true, 3 }), ecn(1000000), api.OK, cutFlying},
		{"two segments", window(2 * one), ecn(1000000), api.OK, to(2*one, 2*one)},
		{"two segments, below where it was", changed(window(2*one), func(s *api.State) { s.High = 3 * one }), ecn(1000000), api.OK, to(2*one, 111411)},
		{"just above two segments", window(2*one + 1), ecn(1000000), api.OK, to(2*one, 131073)},
		{"to just two segments", window(187246), ecn(1000000), api.OK, to(131072, 187246)},
		{"to just above two segments", window(187248), ecn(1000000), api.OK, to(131073, 187248)},
		{"the greatest window", changed(window(greatest), func(s *api.State) { s.Config.Max, s.High = maxSegs, greatest }), ecn(1000000), api.OK, to(48103633715, greatest)},
	})
}

// P21.5: timeouts: of nothing, of something, and again and again.
func TestTimeout(t *testing.T) {
	to := func(thresh, high, back int) func(s *api.State) {
		return func(s *api.State) {
			lateFlying(s)
			s.Thresh, s.High, s.Back = thresh, high, back
			s.Epoch = api.Epoch{}
		}
	}
	late := func(n int) api.State {
		return changed(flying(), func(s *api.State) { s.Back = n })
	}
	holdRows(t, []row{
		{"nothing was sent", fresh(), timeout(0), api.ErrAck, nil},
		{"nothing is out", changed(flying(), landed), timeout(2000000), api.ErrAck, nil},
		{"something is out", flying(), timeout(2000000), api.OK, lateFlying},
		{"a byte is out", changed(flying(), func(s *api.State) { s.Flight.Out = 1 }), timeout(2000000), api.OK, lateFlying},
		{"it recovers", changed(flying(), func(s *api.State) { s.Recover = 100000 }), timeout(2000000), api.OK, lateFlying},
		{"below where it was", changed(flying(), func(s *api.State) { s.High = 25 * one }), timeout(2000000), api.OK, to(14*one, 17*one, 1)},
		{"in an epoch", risen(), timeout(2000000), api.OK, to(321126, 389939, 1)},
		{"gentle", gentle(), timeout(2000000), api.OK, lateFlying},
		{"limited", changed(flying(), func(s *api.State) { s.Limited = true }), timeout(2000000), api.OK, lateFlying},
		{"done", changed(flying(), func(s *api.State) { s.Hystart = api.Hystart{Done: true} }), timeout(2000000), api.OK, lateFlying},
		{"late already", late(1), timeout(2000000), api.OK, to(14*one, 20*one, 2)},
		{"one less than doubles no more", late(8), timeout(2000000), api.OK, to(14*one, 20*one, 9)},
		{"doubles no more", late(9), timeout(2000000), api.OK, to(14*one, 20*one, 9)},
		{"doubles no more, later than that", late(10), timeout(2000000), api.OK, to(14*one, 20*one, 10)},
		{"doubles no more, 64", late(64), timeout(2000000), api.OK, to(14*one, 20*one, 64)},
		{"two segments", changed(flying(), func(s *api.State) { s.Window = 2 * one }), timeout(2000000), api.OK, to(2*one, 2*one, 1)},
	})
	// Least 1 and the last time as the greatest timeout: as many doublings as there can be.
	c := usual()
	c.Grain, c.Least, c.Great, c.First = 1, 1, maxTime, 2
	s, _ := engine.New(c)
	s.Rtt = api.Rtt{Has: true, Mean: 8}
	at := 0
	for i := range 70 {
		s = holdDo(t, s, send(at, 1000))
		s = holdDo(t, s, timeout(at+100000))
		at += 200000
		if want := min(i+1, 39); s.Back != want || engine.Look(s).Rto != min(2<<want, maxTime) {
			t.Fatalf("%d timeouts: Back %d, %+v", i+1, s.Back, engine.Look(s))
		}
		if s.Window != 2*one || s.Thresh != 2*one || s.Flight != (api.Flight{Sent: 1000 * (i + 1)}) || s.Recover != 1000*(i+1) {
			t.Fatalf("%d timeouts: %+v", i+1, s)
		}
	}
}

// P21.5: pauses of the sender, and time alone.
func TestIdleTick(t *testing.T) {
	for _, s := range some() {
		holdRows(t, []row{
			{"idle", s, idle(max(s.Now, 0)), api.OK, func(s *api.State) { s.Limited = true }},
			{"tick", s, tick(max(s.Now, 0)), api.OK, nil},
			{"idle, at last", s, idle(maxTime), api.OK, func(s *api.State) { s.Limited = true }},
			{"tick, at last", s, tick(maxTime), api.OK, nil},
		})
	}
}
