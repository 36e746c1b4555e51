package event_test

import (
	"math"
	"slices"
	"sync"
	"testing"

	"sawtooth/api"
	"sawtooth/event"
)

const (
	most     = math.MaxInt64
	fewest   = math.MinInt64
	maxTime  = 1099511627776
	maxBytes = 1073741824
	maxRtt   = 1073741824
)

// near are the numbers, and their neighbours, as far as there are any.
func near(l ...int) []int {
	var all []int
	for _, n := range l {
		if n > fewest {
			all = append(all, n-1)
		}
		all = append(all, n)
		if n < most {
			all = append(all, n+1)
		}
	}
	slices.Sort(all)
	return slices.Compact(all)
}

// stirred are numbers from 0 up to below n, the same ones for each seed.
func stirred(seed uint64) func(n int) int {
	s := seed*2862933555777941757 + 3037000493
	return func(n int) int {
		s = s*6364136223846793005 + 1442695040888963407
		return int((s >> 33) % uint64(n))
	}
}

// sized is a number of at most so many bits, of any length.
func sized(next func(n int) int, bits int) int {
	n := 0
	for range next(bits + 1) {
		n = 2*n + next(2)
	}
	return n
}

// fitting is as the chapter's words say it, kind by kind: which of an event's fields may be.
func fitting(e api.Event) bool {
	bytes := e.Bytes >= 1 && e.Bytes <= maxBytes
	switch e.Kind {
	case 1:
		return bytes && e.Rtt >= 0 && e.Rtt <= maxRtt
	case 2, 6:
		return bytes && e.Rtt == 0
	}
	return e.Bytes == 0 && e.Rtt == 0
}

func trueCheck(e api.Event) api.Errno {
	if e.Kind < 1 || e.Kind > 7 {
		return api.ErrKind
	}
	if e.At < 0 || e.At > maxTime {
		return api.ErrTime
	}
	if !fitting(e) {
		return api.ErrField
	}
	return api.OK
}

func trueDecode(l []int) (api.Event, api.Errno) {
	if len(l) != 4 {
		return api.Event{}, api.ErrField
	}
	e := api.Event{Kind: l[0], At: l[1], Bytes: l[2], Rtt: l[3]}
	if err := trueCheck(e); err != api.OK {
		return api.Event{}, err
	}
	return e, api.OK
}

// trueAll asks of each event the last one ahead of it, backwards, that had no error.
func trueAll(raw [][]int) ([]api.Event, []api.Errno) {
	var events []api.Event
	var errs []api.Errno
	for i, l := range raw {
		e, err := trueDecode(l)
		for j := i - 1; err == api.OK && j >= 0; j-- {
			if errs[j] != api.OK {
				continue
			}
			if e.At < raw[j][1] {
				err = api.ErrBack
			}
			break
		}
		errs = append(errs, err)
		if err == api.OK {
			events = append(events, e)
		}
	}
	return events, errs
}

func holdCheck(t *testing.T, e api.Event) {
	t.Helper()
	want := trueCheck(e)
	if got := event.Check(e); got != want {
		t.Fatalf("Check(%+v): %v, not %v", e, got, want)
	}
	l := []int{e.Kind, e.At, e.Bytes, e.Rtt}
	if got := event.Encode(e); !slices.Equal(got, l) {
		t.Fatalf("Encode(%+v): %v", e, got)
	}
	whole := e
	if want != api.OK {
		whole = api.Event{}
	}
	if got, err := event.Decode(l); got != whole || err != want {
		t.Fatalf("Decode(%v): %+v, %v, not %+v, %v", l, got, err, whole, want)
	}
}

func holdAll(t *testing.T, raw [][]int) {
	t.Helper()
	events, errs := event.All(raw)
	wantEvents, wantErrs := trueAll(raw)
	if !slices.Equal(events, wantEvents) || !slices.Equal(errs, wantErrs) {
		t.Fatalf("All(%v): %+v, %v, not %+v, %v", raw, events, errs, wantEvents, wantErrs)
	}
}

// usual is an event of that kind that may be.
func usual(kind, at int) api.Event {
	e := api.Event{Kind: kind, At: at}
	switch kind {
	case 1:
		e.Bytes, e.Rtt = 1500, 100
	case 2, 6:
		e.Bytes = 1500
	}
	return e
}

// stirredMay is an event that may be, of any kind, and stirredAny one that may not be, now and then, by any number.
func stirredMay(next func(n int) int) api.Event {
	e := usual(1+next(7), sized(next, 40))
	if e.Bytes > 0 {
		e.Bytes = 1 + sized(next, 30)*next(2)
		e.Bytes = min(e.Bytes, maxBytes)
	}
	if e.Kind == 1 {
		e.Rtt = min(sized(next, 31), maxRtt)
	}
	return e
}

func stirredAny(next func(n int) int) api.Event {
	e := stirredMay(next)
	odd := func() int { return sized(next, 63) - sized(next, 62) }
	switch next(8) {
	case 0:
		e.Kind = odd()
	case 1:
		e.At = odd()
	case 2:
		e.Bytes = odd()
	case 3:
		e.Rtt = odd()
	case 4:
		e.Kind = next(9)
	case 5:
		e.Kind, e.At, e.Bytes, e.Rtt = next(9), odd(), odd(), odd()
	}
	return e
}

// P20.1: kinds, times, bytes and times there and back that may be, and that may not, and which error comes first.
func TestCheck(t *testing.T) {
	for _, c := range []struct {
		kind, at, bytes, rtt int
		want                 api.Errno
	}{
		// The seven kinds, and what they have.
		{api.VAck, 5, 1500, 100, api.OK},
		{api.VAck, 5, 1500, 0, api.OK},
		{api.VLoss, 5, 1500, 0, api.OK},
		{api.VEcn, 5, 0, 0, api.OK},
		{api.VTimeout, 5, 0, 0, api.OK},
		{api.VIdle, 5, 0, 0, api.OK},
		{api.VSend, 5, 1500, 0, api.OK},
		{api.VTick, 5, 0, 0, api.OK},

		// No kind.
		{0, 5, 0, 0, api.ErrKind},
		{0, 5, 1500, 100, api.ErrKind},
		{-1, 5, 1500, 0, api.ErrKind},
		{8, 5, 0, 0, api.ErrKind},
		{8, 5, 1500, 0, api.ErrKind},
		{1 << 32, 5, 0, 0, api.ErrKind},
		{1<<32 + 1, 5, 1500, 100, api.ErrKind},
		{most, 5, 0, 0, api.ErrKind},
		{fewest, 5, 0, 0, api.ErrKind},
		{fewest + 1, 5, 1500, 100, api.ErrKind},

		// Both ends of a time.
		{api.VAck, -1, 1500, 100, api.ErrTime},
		{api.VAck, 0, 1500, 100, api.OK},
		{api.VAck, maxTime, 1500, 100, api.OK},
		{api.VAck, maxTime + 1, 1500, 100, api.ErrTime},
		{api.VTick, -1, 0, 0, api.ErrTime},
		{api.VTick, 0, 0, 0, api.OK},
		{api.VTick, maxTime, 0, 0, api.OK},
		{api.VTick, maxTime + 1, 0, 0, api.ErrTime},
		{api.VTick, most, 0, 0, api.ErrTime},
		{api.VTick, fewest, 0, 0, api.ErrTime},

		// Both ends of bytes.
		{api.VAck, 5, 0, 0, api.ErrField},
		{api.VAck, 5, 0, 100, api.ErrField},
		{api.VAck, 5, 1, 100, api.OK},
		{api.VAck, 5, maxBytes, 100, api.OK},
		{api.VAck, 5, maxBytes + 1, 100, api.ErrField},
		{api.VLoss, 5, 0, 0, api.ErrField},
		{api.VLoss, 5, -1, 0, api.ErrField},
		{api.VLoss, 5, 1, 0, api.OK},
		{api.VLoss, 5, maxBytes, 0, api.OK},
		{api.VLoss, 5, maxBytes + 1, 0, api.ErrField},
		{api.VSend, 5, 0, 0, api.ErrField},
		{api.VSend, 5, 1, 0, api.OK},
		{api.VSend, 5, maxBytes, 0, api.OK},
		{api.VSend, 5, maxBytes + 1, 0, api.ErrField},
		{api.VSend, 5, most, 0, api.ErrField},
		{api.VSend, 5, fewest, 0, api.ErrField},
		{api.VEcn, 5, 1, 0, api.ErrField},
		{api.VTimeout, 5, 1500, 0, api.ErrField},
		{api.VIdle, 5, -1, 0, api.ErrField},
		{api.VTick, 5, maxBytes, 0, api.ErrField},

		// Both ends of a time there and back.
		{api.VAck, 5, 1500, -1, api.ErrField},
		{api.VAck, 5, 1500, 1, api.OK},
		{api.VAck, 5, 1500, maxRtt, api.OK},
		{api.VAck, 5, 1500, maxRtt + 1, api.ErrField},
		{api.VAck, 5, 1500, most, api.ErrField},
		{api.VAck, 5, 1500, fewest, api.ErrField},
		{api.VLoss, 5, 1500, 1, api.ErrField},
		{api.VLoss, 5, 1500, -1, api.ErrField},
		{api.VSend, 5, 1500, 100, api.ErrField},
		{api.VEcn, 5, 0, 1, api.ErrField},
		{api.VTimeout, 5, 0, 100, api.ErrField},
		{api.VIdle, 5, 0, maxRtt, api.ErrField},
		{api.VTick, 5, 0, -1, api.ErrField},

		// Several are wrong at once.
		{0, -1, 0, 0, api.ErrKind},
		{8, maxTime + 1, -1, -1, api.ErrKind},
		{-1, 5, -1, -1, api.ErrKind},
		{0, -1, 1500, -1, api.ErrKind},
		{api.VAck, -1, 0, 100, api.ErrTime},
		{api.VAck, maxTime + 1, 1500, -1, api.ErrTime},
		{api.VLoss, -1, 0, 1, api.ErrTime},
		{api.VTick, maxTime + 1, 1, 1, api.ErrTime},
		{api.VAck, 5, 0, -1, api.ErrField},
		{api.VEcn, 5, 1500, 100, api.ErrField},
		{api.VSend, 5, -1, -1, api.ErrField},
	} {
		e := api.Event{Kind: c.kind, At: c.at, Bytes: c.bytes, Rtt: c.rtt}
		if err := event.Check(e); err != c.want {
			t.Errorf("Check(%+v): %v, not %v", e, err, c.want)
		}
		holdCheck(t, e)
	}
}

// P20.1, P20.2: each kind, and what is none, with times, bytes and times there and back around all ends and both edges, beside each other.
func TestCheckAsTheWords(t *testing.T) {
	kinds := append(near(fewest, most, -7, 1<<32, 256), 0, 1, 2, 3, 4, 5, 6, 7, 8, 9, 10, 16, 257, 1<<32+7)
	bytes := near(fewest, -maxBytes, 0, 1500, maxBytes, 1<<32, 1<<62, most)
	rtts := near(fewest, -maxRtt, 0, 100, maxRtt, 1<<32, most)
	for _, kind := range kinds {
		for _, at := range near(fewest, -maxTime, 0, 1000, maxTime, 1<<62, most) {
			for _, b := range bytes {
				for _, rtt := range rtts {
					holdCheck(t, api.Event{Kind: kind, At: at, Bytes: b, Rtt: rtt})
				}
			}
		}
	}
}

// P20.1, P20.2: stirred ones of all sizes.
func TestCheckOfAllSizes(t *testing.T) {
	next := stirred(201)
	may := 0
	for range 100000 {
		e := stirredAny(next)
		holdCheck(t, e)
		if event.Check(e) == api.OK {
			may++
		}
	}
	if may < 20000 || may > 90000 {
		t.Error(may)
	}
}

// P20.2: lists of four numbers, of fewer, and of more; beside an error there is nothing.
func TestDecode(t *testing.T) {
	for _, c := range []struct {
		l    []int
		want api.Event
		err  api.Errno
	}{
		{[]int{1, 5, 1500, 100}, api.Event{Kind: 1, At: 5, Bytes: 1500, Rtt: 100}, api.OK},
		{[]int{1, 5, 1500, 0}, api.Event{Kind: 1, At: 5, Bytes: 1500}, api.OK},
		{[]int{2, 6, 1, 0}, api.Event{Kind: 2, At: 6, Bytes: 1}, api.OK},
		{[]int{3, 0, 0, 0}, api.Event{Kind: 3}, api.OK},
		{[]int{4, maxTime, 0, 0}, api.Event{Kind: 4, At: maxTime}, api.OK},
		{[]int{5, 7, 0, 0}, api.Event{Kind: 5, At: 7}, api.OK},
		{[]int{6, 8, maxBytes, 0}, api.Event{Kind: 6, At: 8, Bytes: maxBytes}, api.OK},
		{[]int{7, 9, 0, 0}, api.Event{Kind: 7, At: 9}, api.OK},

		{nil, api.Event{}, api.ErrField},
		{[]int{}, api.Event{}, api.ErrField},
		{[]int{1}, api.Event{}, api.ErrField},
		{[]int{1, 5}, api.Event{}, api.ErrField},
		{[]int{7, 5, 0}, api.Event{}, api.ErrField},
		{[]int{1, 5, 1500}, api.Event{}, api.ErrField},
		{[]int{1, 5, 1500, 100, 0}, api.Event{}, api.ErrField},
		{[]int{7, 5, 0, 0, 0}, api.Event{}, api.ErrField},
		{[]int{7, 5, 0, 0, 7, 5, 0, 0}, api.Event{}, api.ErrField},
		{make([]int, 1000), api.Event{}, api.ErrField},

		// Of what has not four numbers none counts.
		{[]int{0}, api.Event{}, api.ErrField},
		{[]int{8, -1, 0}, api.Event{}, api.ErrField},
		{[]int{8, -1, 0, 0, 0}, api.Event{}, api.ErrField},
		{[]int{7, -1, 0, 0, 0}, api.Event{}, api.ErrField},

		{[]int{0, 5, 1500, 100}, api.Event{}, api.ErrKind},
		{[]int{8, 5, 1500, 100}, api.Event{}, api.ErrKind},
		{[]int{0, 0, 0, 0}, api.Event{}, api.ErrKind},
		{[]int{1, -1, 1500, 100}, api.Event{}, api.ErrTime},
		{[]int{7, maxTime + 1, 0, 0}, api.Event{}, api.ErrTime},
		{[]int{1, 5, 0, 100}, api.Event{}, api.ErrField},
		{[]int{1, 5, 1500, -1}, api.Event{}, api.ErrField},
		{[]int{7, 5, 1500, 0}, api.Event{}, api.ErrField},
		{[]int{7, 5, 0, 100}, api.Event{}, api.ErrField},
		{[]int{fewest, fewest, fewest, fewest}, api.Event{}, api.ErrKind},
		{[]int{most, most, most, most}, api.Event{}, api.ErrKind},
	} {
		was := slices.Clone(c.l)
		if e, err := event.Decode(c.l); e != c.want || err != c.err {
			t.Errorf("Decode(%v): %+v, %v, not %+v, %v", c.l, e, err, c.want, c.err)
		}
		if !slices.Equal(c.l, was) {
			t.Errorf("Decode(%v) made %v of it", was, c.l)
		}
	}
}

// P20.2: how many there are is asked of the list, and not of its spare room.
func TestDecodeWithSpareRoom(t *testing.T) {
	room := []int{1, 5, 1500, 100, 77, 78}
	for n := range len(room) + 1 {
		want, wantErr := trueDecode(room[:n])
		if e, err := event.Decode(room[:n]); e != want || err != wantErr {
			t.Errorf("Decode(%v): %+v, %v", room[:n], e, err)
		}
		if !slices.Equal(room, []int{1, 5, 1500, 100, 77, 78}) {
			t.Fatalf("%d: %v", n, room)
		}
	}
}

// P20.2: the four numbers in their order, of what may not be as well.
func TestEncode(t *testing.T) {
	for _, c := range []struct {
		e    api.Event
		want []int
	}{
		{api.Event{}, []int{0, 0, 0, 0}},
		{api.Event{Kind: 1, At: 5, Bytes: 1500, Rtt: 100}, []int{1, 5, 1500, 100}},
		{api.Event{Kind: 7, At: 9}, []int{7, 9, 0, 0}},
		{api.Event{Kind: 6, At: maxTime, Bytes: maxBytes}, []int{6, maxTime, maxBytes, 0}},
		{api.Event{Kind: 8, At: -1, Bytes: -2, Rtt: -3}, []int{8, -1, -2, -3}},
		{api.Event{Kind: most, At: fewest, Bytes: most, Rtt: fewest}, []int{most, fewest, most, fewest}},
		{api.Event{At: 1}, []int{0, 1, 0, 0}},
		{api.Event{Bytes: 1}, []int{0, 0, 1, 0}},
		{api.Event{Rtt: 1}, []int{0, 0, 0, 1}},
	} {
		if l := event.Encode(c.e); !slices.Equal(l, c.want) {
			t.Errorf("Encode(%+v): %v", c.e, l)
		}
	}
}

// P20.2: each answer has memory of its own.
func TestEncodeInItsOwnMemory(t *testing.T) {
	e := api.Event{Kind: 1, At: 5, Bytes: 1500, Rtt: 100}
	a, b := event.Encode(e), event.Encode(e)
	for i := range a {
		a[i] = -1
	}
	a = append(a, -1, -1)
	if !slices.Equal(b, []int{1, 5, 1500, 100}) || !slices.Equal(event.Encode(e), b) || len(a) != 6 {
		t.Errorf("%v", b)
	}
}

// tick is a raw event without bytes.
func tick(at int) []int { return []int{7, at, 0, 0} }

func ack(at int) []int { return []int{1, at, 1500, 100} }

func ticks(at ...int) [][]int {
	var l [][]int
	for _, n := range at {
		l = append(l, tick(n))
	}
	return l
}

// P20.3: each one's error, one behind the other, with which times go back.
func TestAll(t *testing.T) {
	const ok, back = api.OK, api.ErrBack
	for _, c := range []struct {
		raw  [][]int
		ats  []int
		errs []api.Errno
	}{
		{nil, nil, nil},
		{[][]int{}, nil, nil},
		{ticks(5), []int{5}, []api.Errno{ok}},
		{ticks(0), []int{0}, []api.Errno{ok}},
		{ticks(maxTime), []int{maxTime}, []api.Errno{ok}},
		{[][]int{ack(5)}, []int{5}, []api.Errno{ok}},
		{ticks(5, 5), []int{5, 5}, []api.Errno{ok, ok}},
		{ticks(5, 6), []int{5, 6}, []api.Errno{ok, ok}},
		{ticks(5, 4), []int{5}, []api.Errno{ok, back}},
		{ticks(0, 0, 1), []int{0, 0, 1}, []api.Errno{ok, ok, ok}},
		{ticks(1, 0), []int{1}, []api.Errno{ok, back}},
		{ticks(maxTime, 0), []int{maxTime}, []api.Errno{ok, back}},
		{ticks(maxTime, maxTime-1, maxTime), []int{maxTime, maxTime}, []api.Errno{ok, back, ok}},

		// What came back counts for nothing.
		{ticks(5, 3, 4, 5, 6), []int{5, 5, 6}, []api.Errno{ok, back, back, ok, ok}},
		{ticks(5, 3, 2, 4), []int{5}, []api.Errno{ok, back, back, back}},
		{ticks(5, 9, 6, 8, 9), []int{5, 9, 9}, []api.Errno{ok, ok, back, back, ok}},

		// With each error, ahead of others, between them, and behind.
		{[][]int{nil}, nil, []api.Errno{api.ErrField}},
		{[][]int{{}}, nil, []api.Errno{api.ErrField}},
		{[][]int{nil, tick(5)}, []int{5}, []api.Errno{api.ErrField, ok}},
		{[][]int{tick(5), nil, tick(5)}, []int{5, 5}, []api.Errno{ok, api.ErrField, ok}},
		{[][]int{tick(5), {7, 9, 0}, tick(6)}, []int{5, 6}, []api.Errno{ok, api.ErrField, ok}},
		{[][]int{tick(5), {7, 9, 0, 0, 0}, tick(6)}, []int{5, 6}, []api.Errno{ok, api.ErrField, ok}},
		{[][]int{tick(5), {7, 9, 0, 1}, tick(6)}, []int{5, 6}, []api.Errno{ok, api.ErrField, ok}},
		{[][]int{tick(5), {1, 9, 0, 0}, tick(6)}, []int{5, 6}, []api.Errno{ok, api.ErrField, ok}},
		{[][]int{{8, 9, 0, 0}, tick(6)}, []int{6}, []api.Errno{api.ErrKind, ok}},
		{[][]int{tick(5), {0, 9, 0, 0}, tick(6)}, []int{5, 6}, []api.Errno{ok, api.ErrKind, ok}},
		{[][]int{tick(5), {7, maxTime + 1, 0, 0}, tick(6)}, []int{5, 6}, []api.Errno{ok, api.ErrTime, ok}},
		{[][]int{{7, -1, 0, 0}, tick(0)}, []int{0}, []api.Errno{api.ErrTime, ok}},
		{[][]int{tick(5), ack(7), nil}, []int{5, 7}, []api.Errno{ok, ok, api.ErrField}},

		// An error comes ahead of a time that goes back.
		{[][]int{tick(5), {8, 4, 0, 0}}, []int{5}, []api.Errno{ok, api.ErrKind}},
		{[][]int{tick(5), {7, -1, 0, 0}}, []int{5}, []api.Errno{ok, api.ErrTime}},
		{[][]int{tick(5), {7, 4, 1, 0}}, []int{5}, []api.Errno{ok, api.ErrField}},
		{[][]int{tick(5), {7, 4, 0}}, []int{5}, []api.Errno{ok, api.ErrField}},

		// A time goes back ahead of what has an error, and behind it.
		{[][]int{tick(5), tick(4), nil, tick(4), tick(5)}, []int{5, 5}, []api.Errno{ok, back, api.ErrField, back, ok}},
		{[][]int{tick(5), {8, 9, 0, 0}, tick(4), tick(8)}, []int{5, 8}, []api.Errno{ok, api.ErrKind, back, ok}},
		{[][]int{{8, 9, 0, 0}, {7, 9, 1, 0}, tick(4), tick(3)}, []int{4}, []api.Errno{api.ErrKind, api.ErrField, ok, back}},
	} {
		events, errs := event.All(c.raw)
		var ats []int
		for _, e := range events {
			ats = append(ats, e.At)
			if e != usual(e.Kind, e.At) {
				t.Errorf("All(%v): %+v", c.raw, e)
			}
		}
		if !slices.Equal(ats, c.ats) || !slices.Equal(errs, c.errs) {
			t.Errorf("All(%v): %v, %v, not %v, %v", c.raw, ats, errs, c.ats, c.errs)
		}
		holdAll(t, c.raw)
	}
}

// choices are raw events that may be, of three times, and one or two with each error.
func choices() [][]int {
	return [][]int{tick(5), ack(6), tick(7), {8, 9, 0, 0}, {7, maxTime + 1, 0, 0}, {7, 6, 1, 0}, {7, 9, 0}, nil}
}

// P20.3, P20.4: all short lists of these.
func TestAllShortLists(t *testing.T) {
	of := choices()
	for n := range 6 {
		many := 1
		for range n {
			many *= len(of)
		}
		for code := range many {
			var raw [][]int
			for range n {
				raw = append(raw, of[code%len(of)])
				code /= len(of)
			}
			holdAll(t, raw)
		}
	}
}

// stirredRaw are raw events, most of which may be, that go on more often than back.
func stirredRaw(next func(n int) int, many int) [][]int {
	raw := [][]int{}
	at := sized(next, 30)
	for range many {
		e := stirredAny(next)
		if next(3) > 0 {
			at = max(at+sized(next, 12)-next(1+at/2+200)/8, 0)
			e.At = at
		}
		l := []int{e.Kind, e.At, e.Bytes, e.Rtt}
		switch next(12) {
		case 0:
			l = l[:next(4)]
		case 1:
			l = append(l, next(3))
		}
		raw = append(raw, l)
	}
	return raw
}

// P20.3, P20.4: long lists; and in what is told no time goes back.
func TestAllLongLists(t *testing.T) {
	next := stirred(203)
	seen := map[api.Errno]int{}
	for range 2000 {
		raw := stirredRaw(next, next(60))
		holdAll(t, raw)
		events, errs := event.All(raw)
		for _, err := range errs {
			seen[err]++
		}
		if !slices.IsSortedFunc(events, func(a, b api.Event) int { return a.At - b.At }) {
			t.Fatalf("All(%v): %+v", raw, events)
		}
	}
	for _, err := range []api.Errno{api.OK, api.ErrBack, api.ErrTime, api.ErrKind, api.ErrField} {
		if seen[err] < 1000 {
			t.Errorf("%v: %d", err, seen[err])
		}
	}
}

// marked are raw events, and a list that holds them, both with spare room that is marked.
func marked() [][]int {
	room := make([][]int, 0, 8)
	for i, l := range [][]int{ack(5), tick(4), {8, 9, 0, 0}, {6, 9, 1000, 0}, {7, 9}, tick(10)} {
		one := append(make([]int, 0, 8), l...)
		for j := len(one); j < 8; j++ {
			one[:8][j] = 1000*i + j
		}
		room = append(room, one)
	}
	room[:8][6], room[:8][7] = tick(77), nil
	return room
}

func same(a, b [][]int) bool {
	return slices.EqualFunc(a[:8], b[:8], func(x, y []int) bool {
		return slices.Equal(x, y) && slices.Equal(x[:cap(x)], y[:cap(y)])
	})
}

// P20.3: what is given stays as it was, with its spare room.
func TestAllLeavesWhatIsGiven(t *testing.T) {
	raw := marked()
	events, errs := event.All(raw)
	if !same(raw, marked()) {
		t.Errorf("%v", raw)
	}
	if len(events) != 3 || len(errs) != 6 {
		t.Fatalf("%+v, %v", events, errs)
	}
	for i := range events {
		events[i] = api.Event{Kind: -1, At: -1, Bytes: -1, Rtt: -1}
	}
	for i := range errs {
		errs[i] = -1
	}
	events, errs = append(events, api.Event{Kind: -2}), append(errs, -2)
	if !same(raw, marked()) || len(events) != 4 || len(errs) != 7 {
		t.Errorf("%v", raw)
	}
	for _, l := range raw {
		event.Decode(l)
	}
	if !same(raw, marked()) {
		t.Errorf("%v", raw)
	}
}

// P20.3: answers are in memory of their own: neither what was given, nor another answer, changes one.
func TestAllInItsOwnMemory(t *testing.T) {
	raw := marked()
	events, errs := event.All(raw)
	others, otherErrs := event.All(raw)
	wantEvents, wantErrs := trueAll(marked())
	for i := range others {
		others[i].At = -5
	}
	for i := range otherErrs {
		otherErrs[i] = -5
	}
	for _, l := range raw {
		for i := range l[:cap(l)] {
			l[:cap(l)][i] = -9
		}
	}
	clear(raw[:cap(raw)])
	others, otherErrs = append(others, api.Event{}), append(otherErrs, -1)
	if !slices.Equal(events, wantEvents) || !slices.Equal(errs, wantErrs) || len(others) != 4 || len(otherErrs) != 7 {
		t.Errorf("%+v, %v", events, errs)
	}
}

// The chapter's example.
func TestExample(t *testing.T) {
	want := api.Event{Kind: api.VAck, At: 5, Bytes: 1500, Rtt: 100}
	if e, err := event.Decode([]int{1, 5, 1500, 100}); e != want || err != api.OK {
		t.Errorf("%+v, %v", e, err)
	}
	if events, errs := event.All([][]int{{1, 5, 1500, 100}}); !slices.Equal(events, []api.Event{want}) || !slices.Equal(errs, []api.Errno{api.OK}) {
		t.Errorf("%+v, %v", events, errs)
	}
}

// P20.4: what was encoded is decoded, one by one, and all at once.
func TestWhatWasEncodedIsDecoded(t *testing.T) {
	next := stirred(204)
	for range 3000 {
		var raw [][]int
		var sent []api.Event
		for range next(30) {
			e := stirredMay(next)
			l := event.Encode(e)
			if got, err := event.Decode(l); got != e || err != api.OK {
				t.Fatalf("%+v: %v, %+v, %v", e, l, got, err)
			}
			sent = append(sent, e)
		}
		slices.SortStableFunc(sent, func(a, b api.Event) int { return a.At - b.At })
		for _, e := range sent {
			raw = append(raw, event.Encode(e))
		}
		events, errs := event.All(raw)
		if !slices.Equal(events, sent) || !slices.Equal(errs, make([]api.Errno, len(sent))) {
			t.Fatalf("%+v: %+v, %v", sent, events, errs)
		}
	}
	for kind := 1; kind <= 7; kind++ {
		for _, at := range []int{0, 1, maxTime - 1, maxTime} {
			e := usual(kind, at)
			if got, err := event.Decode(event.Encode(e)); got != e || err != api.OK {
				t.Errorf("%+v: %+v, %v", e, got, err)
			}
		}
	}
}

// P20.4: what is told, told again, is the same, without an error.
func TestWhatIsToldIsToldAgain(t *testing.T) {
	next := stirred(205)
	for range 1000 {
		events, _ := event.All(stirredRaw(next, next(60)))
		var raw [][]int
		for _, e := range events {
			raw = append(raw, event.Encode(e))
		}
		again, errs := event.All(raw)
		if !slices.Equal(again, events) || !slices.Equal(errs, make([]api.Errno, len(events))) {
			t.Fatalf("%+v: %+v, %v", events, again, errs)
		}
	}
}

// R4: what is told hangs on what is given alone, beside other calls too.
func TestCallsBesideEachOther(t *testing.T) {
	shared := marked()
	wantEvents, wantErrs := trueAll(shared)
	var hands sync.WaitGroup
	for seed := range uint64(8) {
		hands.Add(1)
		go func() {
			defer hands.Done()
			next := stirred(seed)
			for range 2000 {
				e := stirredAny(next)
				if got := event.Check(e); got != trueCheck(e) {
					t.Errorf("Check(%+v): %v", e, got)
				}
				if events, errs := event.All(shared); !slices.Equal(events, wantEvents) || !slices.Equal(errs, wantErrs) {
					t.Errorf("%+v, %v", events, errs)
				}
			}
		}()
	}
	hands.Wait()
}
