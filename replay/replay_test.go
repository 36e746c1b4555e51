package replay_test

import (
	"math"
	"reflect"
	"slices"
	"testing"

	"sawtooth/api"
	"sawtooth/engine"
	"sawtooth/event"
	"sawtooth/replay"
)

const (
	one      = 65536
	maxSegs  = 1048576
	greatest = 68719476736
	maxTime  = 1099511627776
	maxRtt   = 1073741824
	maxBytes = 1073741824
	most     = math.MaxInt64
	fewest   = math.MinInt64
)

const (
	ack = 1 + iota
	loss
	ecn
	timeout
	idle
	send
	tick
)

// usual is a configuration that may be: segments of 1000 bytes, which make bytes easy to read.
func usual() api.Config {
	return api.Config{Seg: 1000, Max: 1000, First: 10, Grain: 1000, Least: 200000, Great: 60000000, Burst: 10}
}

// fresh is what Look is to tell of a connection of usual that nothing has happened to: 10 segments in a tenth of a second, twice as fast.
func fresh() api.Note {
	return api.Note{Window: 10 * one, Thresh: greatest, Rate: 200000, Rto: 1000000, Part: api.PSlow}
}

// begun is what Last is to tell of it.
func begun() api.State {
	return api.State{Config: usual(), Window: 10 * one, Thresh: greatest, Bucket: api.Bucket{Have: 10000000000}}
}

// same takes lists without elements as the same ones.
func same(a, b api.State) bool {
	if len(a.Least) == 0 && len(b.Least) == 0 {
		a.Least, b.Least = nil, nil
	}
	return reflect.DeepEqual(a, b)
}

// roomy are the same raw events in memory of their own, all with spare room in which something stands.
func roomy(raw [][]int) [][]int {
	l := make([][]int, 0, len(raw)+2)
	for _, r := range raw {
		l = append(l, append(slices.Clone(r), 4, 7, 11)[:len(r)])
	}
	return append(l, []int{tick, 0, 0, 0}, []int{tick, 1, 0, 0})[:len(raw)]
}

// whole is a copy of raw events, with all that stands in their spare room.
func whole(raw [][]int) [][]int {
	l := slices.Clone(raw[:cap(raw)])
	for i, r := range l {
		l[i] = slices.Clone(r[:cap(r)])
	}
	return l
}

// looped are the notes and the state behind, by the layers below, one raw event behind the other.
func looped(c api.Config, raw [][]int) ([]api.Note, api.State, api.Errno) {
	s, err := engine.New(c)
	if err != api.OK {
		return nil, api.State{}, api.ErrConfig
	}
	var notes []api.Note
	for _, r := range raw {
		e, err := event.Decode(r)
		if err == api.OK {
			s, err = engine.Do(s, e)
		}
		note := engine.Look(s)
		note.Err = err
		notes = append(notes, note)
	}
	return notes, s, api.OK
}

// holdPlay holds Play and Last against looped, and what was given against what it was.
func holdPlay(t *testing.T, c api.Config, raw [][]int) ([]api.Note, api.State) {
	t.Helper()
	wantNotes, wantLast, wantErr := looped(c, raw)
	given := roomy(raw)
	kept := whole(given)
	notes, err := replay.Play(c, given)
	if !slices.Equal(notes, wantNotes) || err != wantErr {
		t.Fatalf("Play(%+v, %v): %+v, %v, not %+v, %v", c, raw, notes, err, wantNotes, wantErr)
	}
	last, err := replay.Last(c, given)
	if !same(last, wantLast) || err != wantErr {
		t.Fatalf("Last(%+v, %v): %+v, %v, not %+v, %v", c, raw, last, err, wantLast, wantErr)
	}
	if !reflect.DeepEqual(whole(given), kept) {
		t.Fatalf("%v was changed: %v", kept, whole(given))
	}
	return notes, last
}

// near are the numbers, and their neighbours, as far as there are any.
func near(l ...int) []int {
	var all []int
	for _, n := range l {
		if n > fewest {
			all = append(all, n-1)
		}
		all = append(all, n)
		if n < most {
			all = append(all, n+1)
		}
	}
	slices.Sort(all)
	return slices.Compact(all)
}

func within(n, low, high int) bool {
	return low <= n && n <= high
}

// trueConfig says in plain numbers which configurations may be.
func trueConfig(c api.Config) bool {
	return within(c.Seg, 1, 9000) && within(c.Max, 4, maxSegs) && within(c.First, 2, c.Max) && within(c.Grain, 1, 1000000) &&
		within(c.Great, 1, maxTime) && within(c.Least, 1, c.Great) && within(c.Burst, 1, 1000)
}

// configs are usual with each number at its bounds and beside them, and some in which more is odd.
func configs() []api.Config {
	l := []api.Config{
		usual(),
		{},
		{Seg: 1, Max: 4, First: 2, Grain: 1, Least: 1, Great: 1, Burst: 1},
		{Seg: 9000, Max: maxSegs, First: maxSegs, Grain: 1000000, Least: maxTime, Great: maxTime, Burst: 1000},
		{Seg: most, Max: most, First: most, Grain: most, Least: most, Great: most, Burst: most},
		{Seg: fewest, Max: fewest, First: fewest, Grain: fewest, Least: fewest, Great: fewest, Burst: fewest},
	}
	fields := []func(c *api.Config) *int{
		func(c *api.Config) *int { return &c.Seg },
		func(c *api.Config) *int { return &c.Max },
		func(c *api.Config) *int { return &c.First },
		func(c *api.Config) *int { return &c.Grain },
		func(c *api.Config) *int { return &c.Least },
		func(c *api.Config) *int { return &c.Great },
		func(c *api.Config) *int { return &c.Burst },
	}
	for _, field := range fields {
		for _, n := range near(fewest, 0, 2, 4, 10, 1000, 9000, 200000, 1000000, 60000000, maxSegs, maxTime, most) {
			c := usual()
			*field(&c) = n
			l = append(l, c)
		}
	}
	return l
}

// P22.1: ErrConfig, and nothing beside it, of each configuration that may not be, whatever there is to play; and of no other.
func TestConfigs(t *testing.T) {
	scripts := [][][]int{
		nil,
		{},
		{{tick, 0, 0, 0}},
		{{8, 0, 0, 0}},
		{nil},
		{{send, 0, 1, 0}, {}, {ack, 5, 1, 3}, {timeout, 5, 0, 0}},
		long(),
	}
	may := 0
	for _, c := range configs() {
		for _, raw := range scripts {
			notes, last := holdPlay(t, c, raw)
			_, err := replay.Play(c, raw)
			_, lastErr := replay.Last(c, raw)
			if trueConfig(c) {
				may++
				if err != api.OK || lastErr != api.OK || len(notes) != len(raw) || last.Config != c {
					t.Fatalf("%+v, %v: %v, %v, %d notes, %+v", c, raw, err, lastErr, len(notes), last)
				}
				continue
			}
			if err != api.ErrConfig || lastErr != api.ErrConfig || len(notes) != 0 || !same(last, api.State{}) {
				t.Fatalf("%+v, %v: %v, %v, %+v, %+v", c, raw, err, lastErr, notes, last)
			}
		}
	}
	if all := len(configs()) * len(scripts); may < 100 || may > all-100 {
		t.Errorf("%d of %d may be", may, all)
	}
}

// P22.1: of no raw events there are no notes, and the state is as it began.
func TestNone(t *testing.T) {
	for _, raw := range [][][]int{nil, {}, make([][]int, 0, 3)} {
		if notes, err := replay.Play(usual(), raw); len(notes) != 0 || err != api.OK {
			t.Errorf("Play of none: %+v, %v", notes, err)
		}
		if last, err := replay.Last(usual(), raw); !same(last, begun()) || err != api.OK {
			t.Errorf("Last of none: %+v, %v", last, err)
		}
	}
	other := api.Config{Seg: 9000, Max: maxSegs, First: maxSegs, Grain: 1000000, Least: maxTime, Great: maxTime, Burst: 1000}
	want := api.State{Config: other, Window: greatest, Thresh: greatest, Bucket: api.Bucket{Have: 9000000000000}}
	if last, err := replay.Last(other, nil); !same(last, want) || err != api.OK {
		t.Errorf("Last of none: %+v, %v, not %+v", last, err, want)
	}
}

// P22.1: the chapter's example.
func TestExample(t *testing.T) {
	want := fresh()
	want.Err = api.ErrKind
	for _, kind := range []int{fewest, -1, 0, 8, most} {
		notes, err := replay.Play(usual(), [][]int{{kind, 0, 0, 0}})
		if !slices.Equal(notes, []api.Note{want}) || err != api.OK {
			t.Errorf("one of kind %d: %+v, %v", kind, notes, err)
		}
	}
}

// noted is what is told of a window, and up to where slow start goes, with the window's rate, the timeout, the phase, and an error.
func noted(err api.Errno, window, thresh, rate, rto, part int) api.Note {
	return api.Note{Err: err, Window: window, Thresh: thresh, Rate: rate, Rto: rto, Part: part}
}

// P22.1: one raw event: of each kind, and with each error, of which the note has all else as it began.
func TestOne(t *testing.T) {
	refused := func(err api.Errno) api.Note {
		n := fresh()
		n.Err = err
		return n
	}
	for _, c := range []struct {
		name string
		raw  []int
		want api.Note
	}{
		{"sent", []int{send, 0, 10000, 0}, fresh()},
		{"nothing, at the last time", []int{tick, maxTime, 0, 0}, fresh()},
		{"idle", []int{idle, 5, 0, 0}, fresh()},
		// 7 of 10 segments, in a tenth of a second, by a quarter faster.
		{"marked", []int{ecn, 5, 0, 0}, noted(api.OK, 7*one, 7*one, 87500, 1000000, api.PCalm)},
		{"nothing at all", nil, refused(api.ErrField)},
		{"no number", []int{}, refused(api.ErrField)},
		{"a number", []int{tick}, refused(api.ErrField)},
		{"three numbers", []int{tick, 0, 0}, refused(api.ErrField)},
		{"five numbers", []int{tick, 0, 0, 0, 0}, refused(api.ErrField)},
		{"three numbers, of no kind", []int{0, 0, 0}, refused(api.ErrField)},
		{"no kind", []int{0, 0, 0, 0}, refused(api.ErrKind)},
		{"no kind, behind all", []int{8, 0, 0, 0}, refused(api.ErrKind)},
		{"no kind, and no time", []int{8, -1, 0, 0}, refused(api.ErrKind)},
		{"a time below 0", []int{tick, -1, 0, 0}, refused(api.ErrTime)},
		{"a time behind all", []int{tick, maxTime + 1, 0, 0}, refused(api.ErrTime)},
		{"no time, and bytes", []int{tick, -1, 1, 0}, refused(api.ErrTime)},
		{"bytes", []int{tick, 0, 1, 0}, refused(api.ErrField)},
		{"a time there and back", []int{idle, 0, 0, 1}, refused(api.ErrField)},
		{"no bytes", []int{send, 0, 0, 0}, refused(api.ErrField)},
		{"more bytes than may be", []int{send, 0, maxBytes + 1, 0}, refused(api.ErrField)},
		{"more than the window", []int{send, 0, 10001, 0}, refused(api.ErrWindow)},
		{"told of what was not sent", []int{ack, 0, 1, 0}, refused(api.ErrAck)},
		{"told of it, with a time", []int{ack, 0, 1, 50000}, refused(api.ErrAck)},
		{"a time there and back that may not be", []int{ack, 0, 1, maxRtt + 1}, refused(api.ErrField)},
		{"lost what was not sent", []int{loss, 0, 1, 0}, refused(api.ErrAck)},
		{"a timeout with nothing there", []int{timeout, 0, 0, 0}, refused(api.ErrAck)},
	} {
		notes, last := holdPlay(t, usual(), [][]int{c.raw})
		if !slices.Equal(notes, []api.Note{c.want}) {
			t.Errorf("%s: Play of %v: %+v, not %+v", c.name, c.raw, notes, c.want)
		}
		if c.want.Err != api.OK && !same(last, begun()) {
			t.Errorf("%s: Last of %v: %+v", c.name, c.raw, last)
		}
	}
}

// long is a script of all kinds none of which is refused.
func long() [][]int {
	return [][]int{
		{send, 0, 10000, 0},
		{loss, 100000, 1000, 0},
		{loss, 110000, 1000, 0},
		{ecn, 120000, 0, 0},
		{ack, 140000, 7000, 0},
		{idle, 150000, 0, 0},
		{ack, 150000, 1000, 0},
		{tick, 200000, 0, 0},
		{send, 300000, 7000, 0},
		{timeout, 1300000, 0, 0},
		{send, 1400000, 2000, 0},
		{ack, 1500000, 1000, 100000},
		{ack, 1500000, 1000, 100000},
		{send, 1600000, 4000, 0},
		{ack, 1700000, 4000, 100000},
	}
}

// longNotes are what is to be told of long: numbers worked out by the words of the chapters.
func longNotes() []api.Note {
	recovers := noted(api.OK, 7*one, 7*one, 87500, 1000000, api.PRecover)
	calm := noted(api.OK, 7*one, 7*one, 87500, 1000000, api.PCalm)
	return []api.Note{
		fresh(),
		recovers, recovers, recovers, recovers, recovers,
		calm, calm, calm,
		// 7 tenths of 458752, and twice the timeout.
		noted(api.OK, 2*one, 321126, 40000, 2000000, api.PSlow),
		noted(api.OK, 2*one, 321126, 40000, 2000000, api.PSlow),
		// Told of, and so doubled no more: a tenth of a second, and four times how far that strays, which is half of it at first, and a quarter less each time.
		noted(api.OK, 3*one, 321126, 60000, 300000, api.PSlow),
		noted(api.OK, 4*one, 321126, 80000, 250000, api.PSlow),
		noted(api.OK, 4*one, 321126, 80000, 250000, api.PSlow),
		// Four segments more, beyond where slow start ends.
		noted(api.OK, 8*one, 321126, 100000, 212500, api.PCalm),
	}
}

// longLast is what is to be left behind long.
func longLast() api.State {
	return api.State{
		Config: usual(),
		Now:    1700000,
		Last:   1600000,
		Window: 8 * one,
		Thresh: 321126,
		// 17 twentieths of the 7 segments that there were at the timeout, which had not come back to ten.
		High:    389939,
		Flight:  api.Flight{Sent: 23000, Told: 14000},
		Rtt:     api.Rtt{Has: true, Mean: 800000, Far: 112500},
		Least:   []api.Mark{{At: 1700000, N: 100000}},
		Round:   api.Round{ID: 3, End: 23000},
		Hystart: api.Hystart{Last: 100000},
		Recover: 17000,
		Bucket:  api.Bucket{At: 1700000, Have: 10000000000},
	}
}

// P22.1: many raw events, with numbers worked out beforehand.
func TestMany(t *testing.T) {
	notes, last := holdPlay(t, usual(), long())
	for i, want := range longNotes() {
		if notes[i] != want {
			t.Errorf("note %d, of %v: %+v, not %+v", i, long()[i], notes[i], want)
		}
	}
	if want := longLast(); !same(last, want) {
		t.Errorf("Last: %+v, not %+v", last, want)
	}
}

// bad is a raw event that is refused, and why.
type bad struct {
	raw []int
	err api.Errno
}

// refusals are raw events that s refuses, each error in all its kinds, at Now and later on.
func refusals(s api.State) []bad {
	now, out := s.Now, s.Flight.Out
	l := []bad{
		{nil, api.ErrField}, {[]int{}, api.ErrField}, {[]int{tick}, api.ErrField},
		{[]int{tick, now, 0}, api.ErrField}, {[]int{tick, now, 0, 0, 0}, api.ErrField}, {[]int{send, now, 1}, api.ErrField},
		{[]int{0, now, 0, 0}, api.ErrKind}, {[]int{8, maxTime, 0, 0}, api.ErrKind}, {[]int{most, now, 0, 0}, api.ErrKind}, {[]int{fewest, now, 0, 0}, api.ErrKind},
		{[]int{tick, -1, 0, 0}, api.ErrTime}, {[]int{tick, maxTime + 1, 0, 0}, api.ErrTime}, {[]int{ecn, most, 0, 0}, api.ErrTime}, {[]int{ecn, fewest, 0, 0}, api.ErrTime},
		{[]int{tick, maxTime, 1, 0}, api.ErrField}, {[]int{idle, now, 0, 1}, api.ErrField}, {[]int{ecn, now, -1, 0}, api.ErrField}, {[]int{timeout, now, 0, -1}, api.ErrField},
		{[]int{send, now, 0, 0}, api.ErrField}, {[]int{send, now, 1, 1}, api.ErrField}, {[]int{send, now, maxBytes + 1, 0}, api.ErrField},
		{[]int{loss, now, 0, 0}, api.ErrField}, {[]int{loss, now, 1, 1}, api.ErrField}, {[]int{loss, now, most, 0}, api.ErrField},
		{[]int{ack, now, 0, 0}, api.ErrField}, {[]int{ack, now, 1, -1}, api.ErrField}, {[]int{ack, now, 1, maxRtt + 1}, api.ErrField}, {[]int{ack, now, fewest, 0}, api.ErrField},
		{[]int{send, now, maxBytes, 0}, api.ErrWindow}, {[]int{send, maxTime, maxBytes, 0}, api.ErrWindow}, {[]int{send, now + 1000, 10001, 0}, api.ErrWindow},
		{[]int{ack, now, out + 1, 0}, api.ErrAck}, {[]int{ack, now + 5000, out + 1, 70000}, api.ErrAck}, {[]int{ack, maxTime, maxBytes, maxRtt}, api.ErrAck},
		{[]int{loss, now, out + 1, 0}, api.ErrAck}, {[]int{loss, maxTime, maxBytes, 0}, api.ErrAck},
	}
	if now > 0 {
		l = append(l, bad{[]int{tick, now - 1, 0, 0}, api.ErrBack}, bad{[]int{idle, 0, 0, 0}, api.ErrBack}, bad{[]int{ecn, now - 1, 0, 0}, api.ErrBack},
			bad{[]int{send, now - 1, 1, 0}, api.ErrBack}, bad{[]int{ack, now - 1, 1, 0}, api.ErrBack}, bad{[]int{loss, now - 1, 1, 0}, api.ErrBack}, bad{[]int{timeout, now - 1, 0, 0}, api.ErrBack})
	}
	if out == 0 {
		l = append(l, bad{[]int{timeout, now, 0, 0}, api.ErrAck}, bad{[]int{timeout, maxTime, 0, 0}, api.ErrAck})
	}
	return l
}

// P22.1, P22.3: what is refused, at each place of a script: the error stands there, beside what was told last, and the events behind are played to what was there.
func TestRefused(t *testing.T) {
	seen := map[api.Errno]int{}
	for i := range len(long()) + 1 {
		s, _ := replay.Last(usual(), long()[:i])
		told := fresh()
		if i > 0 {
			told = longNotes()[i-1]
		}
		for _, b := range refusals(s) {
			notes, last := holdPlay(t, usual(), slices.Insert(long(), i, b.raw))
			told.Err = b.err
			if want := slices.Insert(longNotes(), i, told); !slices.Equal(notes, want) {
				t.Fatalf("%v ahead of event %d: %+v, not %+v", b.raw, i, notes, want)
			}
			if !same(last, longLast()) {
				t.Fatalf("%v ahead of event %d: %+v is left", b.raw, i, last)
			}
			seen[b.err]++
		}
		holdAll(t, i, told, refusals(s))
	}
	for _, err := range []api.Errno{api.ErrBack, api.ErrTime, api.ErrKind, api.ErrField, api.ErrAck, api.ErrWindow} {
		if seen[err] == 0 {
			t.Errorf("none was refused with %v", err)
		}
	}
}

// holdAll puts all refusals of a place there at once.
func holdAll(t *testing.T, i int, told api.Note, l []bad) {
	t.Helper()
	raw, want := long()[:i], longNotes()[:i]
	for _, b := range l {
		told.Err = b.err
		raw, want = append(raw, b.raw), append(want, told)
	}
	raw, want = append(raw, long()[i:]...), append(want, longNotes()[i:]...)
	notes, last := holdPlay(t, usual(), raw)
	if !slices.Equal(notes, want) {
		t.Fatalf("all ahead of event %d: %+v, not %+v", i, notes, want)
	}
	if !same(last, longLast()) {
		t.Fatalf("all ahead of event %d: %+v is left", i, last)
	}
}

// P22.1: raw events whose numbers lie at their bounds, at both edges of 64 bits, and in other counts than four.
func TestEdges(t *testing.T) {
	bytes, times := []int{fewest, -1, 0, 1, 5000, 10000, 10001, maxBytes, maxBytes + 1, most}, []int{fewest, -1, 0, 99999, 100000, maxTime, maxTime + 1, most}
	var all [][]int
	for _, kind := range []int{fewest, -1, 0, 1, 2, 3, 4, 5, 6, 7, 8, most} {
		for _, at := range times {
			for _, n := range bytes {
				for _, rtt := range []int{fewest, -1, 0, 1, maxRtt, maxRtt + 1, most} {
					all = append(all, []int{kind, at, n, rtt})
				}
			}
		}
	}
	first := []int{send, 100000, 10000, 0}
	for _, r := range all {
		holdPlay(t, usual(), [][]int{r})
		holdPlay(t, usual(), [][]int{first, r, {ack, 100000, 1, 5}})
	}
	holdPlay(t, usual(), all)
	for n := range 9 {
		for _, x := range []int{fewest, -1, 0, 1, tick, most} {
			notes, last := holdPlay(t, usual(), [][]int{slices.Repeat([]int{x}, n)})
			if n != 4 && (notes[0].Err != api.ErrField || !same(last, begun())) {
				t.Errorf("%d numbers %d: %+v, %+v", n, x, notes, last)
			}
		}
	}
}

// P22.2: windows of notes without an error, and how many have one, told by hand.
func TestNotes(t *testing.T) {
	good := func(window int) api.Note { return api.Note{Window: window} }
	wrong := func(err api.Errno, window int) api.Note { return api.Note{Err: err, Window: window} }
	for _, c := range []struct {
		name    string
		l       []api.Note
		windows []int
		wrong   int
	}{
		{"no list", nil, nil, 0},
		{"no notes", []api.Note{}, nil, 0},
		{"one", []api.Note{good(5)}, []int{5}, 0},
		{"one wrong", []api.Note{wrong(api.ErrAck, 5)}, nil, 1},
		{"some", []api.Note{good(3), good(1), good(2), good(1)}, []int{3, 1, 2, 1}, 0},
		{"some wrong", []api.Note{wrong(api.ErrAck, 3), wrong(api.ErrBack, 1), wrong(api.ErrBack, 1)}, nil, 3},
		{"windows that no window has", []api.Note{good(fewest), good(-1), good(0), good(most)}, []int{fewest, -1, 0, most}, 0},
		{"errors that are none", []api.Note{wrong(1, 4), wrong(-1, 5), wrong(most, 6), wrong(fewest, 7), good(8)}, []int{8}, 4},
		{"all else of a note does not count", []api.Note{{Thresh: 1, Rate: 2, Rto: 3, Part: 4}, {Window: 9, Thresh: -1, Rate: fewest, Rto: most, Part: 77}}, []int{0, 9}, 0},
		{"all else of a wrong one neither", []api.Note{{Err: api.ErrScript, Thresh: 1, Rate: 2, Rto: 3, Part: 4}}, nil, 1},
	} {
		holdNotes(t, c.name, c.l, c.windows, c.wrong)
	}
	for n := 1; n < 6; n++ {
		for mask := range 1 << n {
			var l []api.Note
			var windows []int
			for i := range n {
				note := good(10 + i)
				if mask>>i&1 == 1 {
					note.Err = api.ErrField
				} else {
					windows = append(windows, note.Window)
				}
				l = append(l, note)
			}
			holdNotes(t, "each place", l, windows, n-len(windows))
		}
	}
	notes, _ := holdPlay(t, usual(), append(long(), []int{tick, 0, 0, 0}))
	holdNotes(t, "played", notes, []int{
		10 * one, 7 * one, 7 * one, 7 * one, 7 * one, 7 * one, 7 * one, 7 * one, 7 * one, 2 * one, 2 * one, 3 * one, 4 * one, 4 * one, 8 * one,
	}, 1)
}

// holdNotes asks with something wrong, and something right, in the spare room of l.
func holdNotes(t *testing.T, name string, l []api.Note, windows []int, wrong int) {
	t.Helper()
	given := append(slices.Clone(l), api.Note{Window: 1}, api.Note{Err: api.ErrKind, Window: 2})
	kept := slices.Clone(given)
	if got := replay.Windows(given[:len(l)]); !slices.Equal(got, windows) {
		t.Errorf("%s: Windows(%+v): %v, not %v", name, l, got, windows)
	}
	if got := replay.Wrong(given[:len(l)]); got != wrong {
		t.Errorf("%s: Wrong(%+v): %d, not %d", name, l, got, wrong)
	}
	if !slices.Equal(given, kept) {
		t.Errorf("%s: %+v was changed: %+v", name, kept, given)
	}
}

// P22.1, P22.2: answers are in memory of their own: neither another answer, nor what was given, is in them.
func TestMemory(t *testing.T) {
	raw := roomy(long())
	first, _ := replay.Play(usual(), raw)
	second, _ := replay.Play(usual(), raw)
	state, _ := replay.Last(usual(), raw)
	other, _ := replay.Last(usual(), raw)
	windows, others := replay.Windows(first), replay.Windows(first)
	for _, l := range [][]api.Note{first, first[:cap(first)]} {
		for i := range l {
			l[i] = api.Note{Err: api.ErrOver, Window: -1}
		}
	}
	for i := range windows[:cap(windows)] {
		windows[:cap(windows)][i] = -1
	}
	for i := range state.Least[:cap(state.Least)] {
		state.Least[:cap(state.Least)][i] = api.Mark{At: -1, N: -1}
	}
	_, _, _ = append(first, api.Note{}), append(windows, -2), append(state.Least, api.Mark{})
	for _, r := range raw {
		clear(r[:cap(r)])
	}
	clear(raw[:cap(raw)])
	if !slices.Equal(second, longNotes()) || !same(other, longLast()) {
		t.Errorf("%+v, %+v", second, other)
	}
	if want := replay.Windows(longNotes()); !slices.Equal(others, want) {
		t.Errorf("%v, not %v", others, want)
	}
	holdPlay(t, usual(), long())
}
