package engine_test

import (
	"math"
	"reflect"
	"slices"
	"testing"

	"sawtooth/api"
	"sawtooth/engine"
	"sawtooth/epoch"
	"sawtooth/rate"
	"sawtooth/rto"
)

const (
	one      = 65536
	maxSegs  = 1048576
	greatest = 68719476736
	maxTime  = 1099511627776
	maxRtt   = 1073741824
	maxBytes = 1073741824
	most     = math.MaxInt64
	fewest   = math.MinInt64
)

// near are the numbers, and their neighbours, as far as there are any.
func near(l ...int) []int {
	var all []int
	for _, n := range l {
		if n > fewest {
			all = append(all, n-1)
		}
		all = append(all, n)
		if n < most {
			all = append(all, n+1)
		}
	}
	slices.Sort(all)
	return slices.Compact(all)
}

// usual is a configuration that may be: segments of 1000 bytes, which make bytes easy to read.
func usual() api.Config {
	return api.Config{Seg: 1000, Max: 1000, First: 10, Grain: 1000, Least: 200000, Great: 60000000, Burst: 10}
}

// fresh is what New is to tell of usual.
func fresh() api.State {
	return api.State{
		Config: usual(),
		Window: 10 * one,
		Thresh: greatest,
		Bucket: api.Bucket{Have: 10000000000},
	}
}

// flying is in slow start: 80000 bytes of 100000 are resolved, times there and back are known, and the bucket is full.
func flying() api.State {
	return api.State{
		Config:  usual(),
		Now:     1000000,
		Last:    900000,
		Window:  20 * one,
		Thresh:  greatest,
		Flight:  api.Flight{Sent: 100000, Told: 80000, Out: 20000},
		Rtt:     api.Rtt{Has: true, Mean: 800000, Far: 80000},
		Least:   []api.Mark{{At: 500000, N: 90000}, {At: 800000, N: 95000}},
		Round:   api.Round{ID: 3, End: 90000},
		Hystart: api.Hystart{Last: 100000, Least: 115000, Many: 7},
		Bucket:  api.Bucket{At: 1000000, Have: 10000000000},
	}
}

// calm is behind a cut from 10 segments, and recovers no more.
func calm() api.State {
	s := flying()
	s.Window, s.Thresh, s.High = 7*one, 7*one, 10*one
	s.Recover = 80000
	s.Hystart = api.Hystart{Done: true}
	return s
}

// risen is calm, a first step of its epoch later.
func risen() api.State {
	s := calm()
	s.Epoch = api.Epoch{On: true, Start: 1000000, First: 7 * one, Max: 10 * one, K: 1957433, Est: 463708}
	return s
}

func gentle() api.State {
	s := flying()
	s.Hystart = api.Hystart{Last: 100000, Least: 115000, Many: 8, Gentle: true, Base: 115000, Rounds: 4}
	return s
}

// changed is s with some of it written over, and marks in memory of their own.
func changed(s api.State, change func(s *api.State)) api.State {
	s.Least = slices.Clone(s.Least)
	if change != nil {
		change(&s)
	}
	return s
}

// some are states that may be, of all phases.
func some() []api.State {
	return []api.State{
		fresh(),
		flying(),
		gentle(),
		calm(),
		risen(),
		changed(calm(), func(s *api.State) { s.Recover = 100000 }),
		changed(flying(), func(s *api.State) { s.Recover, s.Limited = 80001, true }),
		changed(flying(), func(s *api.State) { s.Window, s.Thresh, s.Back, s.Rtt = 2*one, 14*one, 5, api.Rtt{} }),
		changed(flying(), func(s *api.State) { s.Hystart = api.Hystart{Last: 5, Done: true} }),
		changed(risen(), func(s *api.State) { s.Window, s.Flight = 1000*one, api.Flight{Sent: most, Told: most} }),
	}
}

func within(n, low, high int) bool {
	return n >= low && n <= high
}

// trueConfig, and the others, say in plain numbers what may be, by the words of the chapters.
func trueConfig(c api.Config) bool {
	return within(c.Seg, 1, 9000) && within(c.Max, 4, maxSegs) && within(c.First, 2, c.Max) && within(c.Grain, 1, 1000000) &&
		within(c.Great, 1, maxTime) && within(c.Least, 1, c.Great) && within(c.Burst, 1, 1000)
}

func trueRtt(r api.Rtt) bool {
	if !r.Has {
		return r == api.Rtt{}
	}
	return within(r.Mean, 8, 8*maxRtt) && within(r.Far, 0, 4*maxRtt)
}

func trueMarks(l []api.Mark, now int) bool {
	for i, m := range l {
		if !within(m.At, 0, now) || !within(m.N, 1, maxRtt) {
			return false
		}
		if i > 0 && (m.At < l[i-1].At || m.N <= l[i-1].N) {
			return false
		}
	}
	return true
}

func trueHystart(h api.Hystart) bool {
	if !within(h.Last, 0, maxRtt) || !within(h.Least, 0, maxRtt) || !within(h.Many, 0, 8) || (h.Many == 0) != (h.Least == 0) {
		return false
	}
	if h.Gentle {
		return !h.Done && within(h.Base, 1, maxRtt) && within(h.Rounds, 0, 5)
	}
	return h.Base == 0 && h.Rounds == 0
}

func trueEpoch(e api.Epoch) bool {
	if !e.On {
		return e == api.Epoch{}
	}
	return within(e.Start, 0, maxTime) && within(e.First, 0, greatest) && within(e.Max, e.First, greatest) &&
		within(e.Est, 0, greatest) && e.K == epoch.K(e.Max-e.First)
}

func trueFlight(f api.Flight) bool {
	return within(f.Sent, 0, most) && within(f.Told, 0, f.Sent) && within(f.Out, 0, f.Sent-f.Told)
}

func trueCheck(s api.State) bool {
	switch {
	case !trueConfig(s.Config), !within(s.Now, 0, maxTime), !within(s.Last, 0, s.Now):
		return false
	case !within(s.Window, 2*one, s.Config.Max*one), !within(s.Thresh, 2*one, greatest), !within(s.High, 0, greatest):
		return false
	case !trueFlight(s.Flight), !trueRtt(s.Rtt), !trueMarks(s.Least, s.Now), !trueHystart(s.Hystart), !trueEpoch(s.Epoch):
		return false
	case s.Round.ID < 0, s.Round.End < 0:
		return false
	}
	return within(s.Recover, 0, s.Flight.Sent) && within(s.Back, 0, 64) && within(s.Bucket.At, 0, s.Now) && within(s.Bucket.Have, 0, 1<<60)
}

func trueResolved(s api.State) int {
	if !trueCheck(s) {
		return 0
	}
	return s.Flight.Sent - s.Flight.Out
}

func trueLook(s api.State) api.Note {
	if !trueCheck(s) {
		return api.Note{Err: api.ErrField}
	}
	n := api.Note{Window: s.Window, Thresh: s.Thresh, Part: 2}
	slow := s.Window < s.Thresh
	n.Rate = rate.Of(s.Window, s.Config.Seg, s.Rtt, slow)
	n.Rto = rto.Of(s.Rtt, s.Config, s.Back)
	if slow {
		n.Part = 0
	}
	if slow && s.Hystart.Gentle {
		n.Part = 1
	}
	if s.Flight.Sent-s.Flight.Out < s.Recover {
		n.Part = 3
	}
	return n
}

// same lets a list without elements be nil or not.
func same(a, b api.State) bool {
	if !slices.Equal(a.Least, b.Least) {
		return false
	}
	a.Least, b.Least = nil, nil
	return reflect.DeepEqual(a, b)
}

// holdTold asks all that is told of a state, and whether it stays as it was.
func holdTold(t *testing.T, s api.State) {
	t.Helper()
	kept := changed(s, nil)
	if got, want := engine.Check(s), trueCheck(s); got != want {
		t.Fatalf("Check(%+v): %v, not %v", s, got, want)
	}
	if got, want := engine.Resolved(s), trueResolved(s); got != want {
		t.Fatalf("Resolved(%+v): %v, not %v", s, got, want)
	}
	if got, want := engine.Look(s), trueLook(s); got != want {
		t.Fatalf("Look(%+v): %+v, not %+v", s, got, want)
	}
	if !same(s, kept) {
		t.Fatalf("%+v is %+v behind Check, Resolved, Look", kept, s)
	}
}

// P21.1: a connection at first, of configurations that may be, at each bound and beside it, and of others.
func TestNew(t *testing.T) {
	if got, err := engine.New(usual()); !same(got, fresh()) || err != api.OK {
		t.Errorf("New(%+v): %+v, %v, not %+v", usual(), got, err, fresh())
	}
	fields := []func(c *api.Config) *int{
		func(c *api.Config) *int { return &c.Seg },
		func(c *api.Config) *int { return &c.Max },
		func(c *api.Config) *int { return &c.First },
		func(c *api.Config) *int { return &c.Grain },
		func(c *api.Config) *int { return &c.Least },
		func(c *api.Config) *int { return &c.Great },
		func(c *api.Config) *int { return &c.Burst },
	}
	numbers := near(0, 2, 4, 10, 1000, 9000, 200000, 1000000, 60000000, maxSegs, maxTime, most, fewest)
	for i, field := range fields {
		many := 0
		for _, n := range numbers {
			c := usual()
			*field(&c) = n
			holdNew(t, c)
			if trueConfig(c) {
				many++
			}
		}
		if many == 0 || many == len(numbers) {
			t.Errorf("field %d: %d of %d may be", i, many, len(numbers))
		}
	}
	for _, c := range []api.Config{
		{},
		{Seg: 1, Max: 4, First: 2, Grain: 1, Least: 1, Great: 1, Burst: 1},
		{Seg: 9000, Max: maxSegs, First: maxSegs, Grain: 1000000, Least: maxTime, Great: maxTime, Burst: 1000},
		{Seg: 9000, Max: maxSegs, First: maxSegs, Grain: 1000000, Least: maxTime, Great: maxTime - 1, Burst: 1000},
		{Seg: most, Max: most, First: most, Grain: most, Least: most, Great: most, Burst: most},
		{Seg: fewest, Max: fewest, First: fewest, Grain: fewest, Least: fewest, Great: fewest, Burst: fewest},
	} {
		holdNew(t, c)
	}
}

func holdNew(t *testing.T, c api.Config) {
	t.Helper()
	var want api.State
	wantErr := api.ErrConfig
	if trueConfig(c) {
		want, wantErr = api.State{
			Config: c,
			Window: c.First * one,
			Thresh: greatest,
			Bucket: api.Bucket{Have: c.Burst * c.Seg * 1000000},
		}, api.OK
	}
	got, err := engine.New(c)
	if !same(got, want) || err != wantErr {
		t.Fatalf("New(%+v): %+v, %v, not %+v, %v", c, got, err, want, wantErr)
	}
	if engine.Check(got) != (err == api.OK) {
		t.Fatalf("New(%+v): %+v, %v, which may not be", c, got, err)
	}
}

// P21.1: states that may be, and states in which just one thing is wrong.
func TestCheck(t *testing.T) {
	for _, s := range some() {
		if !engine.Check(s) {
			t.Errorf("%+v may not be", s)
		}
		holdTold(t, s)
	}
	if engine.Check(api.State{}) {
		t.Error("the empty state may be")
	}
	for _, c := range []struct {
		name   string
		change func(s *api.State)
		want   bool
	}{
		{"a configuration that may not be", func(s *api.State) { s.Config.Burst = 0 }, false},
		{"no configuration", func(s *api.State) { s.Config = api.Config{} }, false},
		{"Now 0", func(s *api.State) { s.Now, s.Last, s.Least, s.Bucket.At = 0, 0, nil, 0 }, true},
		{"Now below 0", func(s *api.State) { s.Now, s.Last, s.Least, s.Bucket.At = -1, 0, nil, 0 }, false},
		{"Now and Last below 0", func(s *api.State) { s.Now, s.Last, s.Least, s.Bucket.At = -1, -1, nil, 0 }, false},
		{"Now the last time", func(s *api.State) { s.Now = maxTime }, true},
		{"Now behind the last time", func(s *api.State) { s.Now = maxTime + 1 }, false},
		{"Last 0", func(s *api.State) { s.Last = 0 }, true},
		{"Last below 0", func(s *api.State) { s.Last = -1 }, false},
		{"Last Now", func(s *api.State) { s.Last = 1000000 }, true},
		{"Last behind Now", func(s *api.State) { s.Last = 1000001 }, false},
		{"Window two segments", func(s *api.State) { s.Window = 131072 }, true},
		{"Window below that", func(s *api.State) { s.Window = 131071 }, false},
		{"Window the greatest one", func(s *api.State) { s.Window = 65536000 }, true},
		{"Window above that", func(s *api.State) { s.Window = 65536001 }, false},
		{"Window the greatest of all", func(s *api.State) { s.Config.Max, s.Window = maxSegs, greatest }, true},
		{"Window above that", func(s *api.State) { s.Config.Max, s.Window = maxSegs, greatest+1 }, false},
		{"Thresh two segments", func(s *api.State) { s.Thresh = 131072 }, true},
		{"Thresh below that", func(s *api.State) { s.Thresh = 131071 }, false},
		{"Thresh the greatest one", func(s *api.State) { s.Thresh = greatest }, true},
		{"Thresh above that", func(s *api.State) { s.Thresh = greatest + 1 }, false},
		{"High 0", func(s *api.State) { s.High = 0 }, true},
		{"High below 0", func(s *api.State) { s.High = -1 }, false},
		{"High the greatest one", func(s *api.State) { s.High = greatest }, true},
		{"High above that", func(s *api.State) { s.High = greatest + 1 }, false},
		{"a flight that may not be", func(s *api.State) { s.Flight.Out = 20001 }, false},
		{"a flight told of below 0", func(s *api.State) { s.Flight.Told = -1 }, false},
		{"a time there and back without one", func(s *api.State) { s.Rtt.Has = false }, false},
		{"no time there and back", func(s *api.State) { s.Rtt = api.Rtt{} }, true},
		{"a mean that may not be", func(s *api.State) { s.Rtt.Mean = 7 }, false},
		{"no marks", func(s *api.State) { s.Least = nil }, true},
		{"an empty list of marks", func(s *api.State) { s.Least = []api.Mark{} }, true},
		{"a mark at Now", func(s *api.State) { s.Least[1].At = 1000000 }, true},
		{"a mark behind Now", func(s *api.State) { s.Least[1].At = 1000001 }, false},
		{"both marks behind Now", func(s *api.State) { s.Least[0].At, s.Least[1].At = 1000001, 1000001 }, false},
		{"a mark ahead of 0", func(s *api.State) { s.Least[0].At = -1 }, false},
		{"marks that go back", func(s *api.State) { s.Least[0].At = 800001 }, false},
		{"marks that do not grow", func(s *api.State) { s.Least[0].N = 95000 }, false},
		{"a mark of 1", func(s *api.State) { s.Least[0].N = 1 }, true},
		{"a mark of 0", func(s *api.State) { s.Least[0].N = 0 }, false},
		{"a mark below 0", func(s *api.State) { s.Least[0].N = -5 }, false},
		{"a mark of the greatest time there and back", func(s *api.State) { s.Least[1].N = maxRtt }, true},
		{"a mark above that", func(s *api.State) { s.Least[1].N = maxRtt + 1 }, false},
		{"a round below 0", func(s *api.State) { s.Round.ID = -1 }, false},
		{"a round that ends below 0", func(s *api.State) { s.Round.End = -1 }, false},
		{"a round that ends behind what was sent", func(s *api.State) { s.Round = api.Round{ID: most, End: most} }, true},
		{"a Hystart that may not be", func(s *api.State) { s.Hystart.Many = 9 }, false},
		{"gentle, without a base", func(s *api.State) { s.Hystart.Gentle = true }, false},
		{"gentle and done", func(s *api.State) { s.Hystart.Gentle, s.Hystart.Base, s.Hystart.Done = true, 5, true }, false},
		{"an epoch that is not On, with something", func(s *api.State) { s.Epoch.Est = 1 }, false},
		{"an epoch that is On", func(s *api.State) { s.Epoch = risen().Epoch }, true},
		{"an epoch that begins behind Now", func(s *api.State) { s.Epoch = risen().Epoch; s.Epoch.Start = maxTime }, true},
		{"an epoch with another K", func(s *api.State) { s.Epoch = risen().Epoch; s.Epoch.K++ }, false},
		{"Recover 0", func(s *api.State) { s.Recover = 0 }, true},
		{"Recover below 0", func(s *api.State) { s.Recover = -1 }, false},
		{"Recover what was sent", func(s *api.State) { s.Recover = 100000 }, true},
		{"Recover above that", func(s *api.State) { s.Recover = 100001 }, false},
		{"Back below 0", func(s *api.State) { s.Back = -1 }, false},
		{"Back 64", func(s *api.State) { s.Back = 64 }, true},
		{"Back 65", func(s *api.State) { s.Back = 65 }, false},
		{"a bucket that may not be", func(s *api.State) { s.Bucket.Have = 1<<60 + 1 }, false},
		{"a bucket ahead of 0", func(s *api.State) { s.Bucket.At = -1 }, false},
		{"a bucket ahead of Now", func(s *api.State) { s.Bucket.At = 0 }, true},
		{"a bucket behind Now", func(s *api.State) { s.Bucket.At = 1000001 }, false},
		{"Limited", func(s *api.State) { s.Limited = true }, true},
	} {
		s := changed(flying(), c.change)
		if got := engine.Check(s); got != c.want {
			t.Errorf("%s: Check(%+v): %v", c.name, s, got)
		}
		holdTold(t, s)
	}
}

// numbers are where each number of a state stands.
func numbers() []func(s *api.State) *int {
	return []func(s *api.State) *int{
		func(s *api.State) *int { return &s.Config.Seg },
		func(s *api.State) *int { return &s.Config.Max },
		func(s *api.State) *int { return &s.Config.First },
		func(s *api.State) *int { return &s.Config.Grain },
		func(s *api.State) *int { return &s.Config.Least },
		func(s *api.State) *int { return &s.Config.Great },
		func(s *api.State) *int { return &s.Config.Burst },
		func(s *api.State) *int { return &s.Now },
		func(s *api.State) *int { return &s.Last },
		func(s *api.State) *int { return &s.Window },
		func(s *api.State) *int { return &s.Thresh },
		func(s *api.State) *int { return &s.High },
		func(s *api.State) *int { return &s.Flight.Sent },
		func(s *api.State) *int { return &s.Flight.Told },
		func(s *api.State) *int { return &s.Flight.Out },
		func(s *api.State) *int { return &s.Rtt.Mean },
		func(s *api.State) *int { return &s.Rtt.Far },
		func(s *api.State) *int { return &s.Round.ID },
		func(s *api.State) *int { return &s.Round.End },
		func(s *api.State) *int { return &s.Hystart.Last },
		func(s *api.State) *int { return &s.Hystart.Least },
		func(s *api.State) *int { return &s.Hystart.Many },
		func(s *api.State) *int { return &s.Hystart.Base },
		func(s *api.State) *int { return &s.Hystart.Rounds },
		func(s *api.State) *int { return &s.Epoch.Start },
		func(s *api.State) *int { return &s.Epoch.First },
		func(s *api.State) *int { return &s.Epoch.Max },
		func(s *api.State) *int { return &s.Epoch.K },
		func(s *api.State) *int { return &s.Epoch.Est },
		func(s *api.State) *int { return &s.Recover },
		func(s *api.State) *int { return &s.Back },
		func(s *api.State) *int { return &s.Bucket.At },
		func(s *api.State) *int { return &s.Bucket.Have },
	}
}

// flags are where each bool of a state stands.
func flags() []func(s *api.State) *bool {
	return []func(s *api.State) *bool{
		func(s *api.State) *bool { return &s.Rtt.Has },
		func(s *api.State) *bool { return &s.Hystart.Gentle },
		func(s *api.State) *bool { return &s.Hystart.Done },
		func(s *api.State) *bool { return &s.Epoch.On },
		func(s *api.State) *bool { return &s.Limited },
	}
}

// edges are numbers at which something of a state begins not to be, and both edges of 64 bits.
func edges(s api.State) []int {
	return near(fewest, -1<<32, 0, 2, 4, 8, 64, 1000, 9000, s.Now, s.Last, s.Flight.Sent, s.Flight.Told, s.Flight.Out, s.Recover,
		131072, maxSegs, s.Config.Max*one, greatest, maxRtt, 4*maxRtt, 8*maxRtt, maxTime, 1<<60, most)
}

// P21.1: each number of a state at each edge, all else as it may be; and each bool the other way round.
func TestCheckEdges(t *testing.T) {
	for _, s := range some() {
		for _, number := range numbers() {
			for _, n := range edges(s) {
				holdTold(t, changed(s, func(s *api.State) { *number(s) = n }))
			}
		}
		for i := range s.Least {
			for _, n := range edges(s) {
				holdTold(t, changed(s, func(s *api.State) { s.Least[i].At = n }))
				holdTold(t, changed(s, func(s *api.State) { s.Least[i].N = n }))
			}
		}
		for _, flag := range flags() {
			holdTold(t, changed(s, func(s *api.State) { *flag(s) = !*flag(s) }))
		}
	}
	for _, n := range []int{fewest, -1, 0, 1, most} {
		all := changed(flying(), func(s *api.State) {
			for _, number := range numbers() {
				*number(s) = n
			}
			s.Least = []api.Mark{{At: n, N: n}}
		})
		if engine.Check(all) {
			t.Errorf("%+v may be", all)
		}
		holdTold(t, all)
	}
}

// P21.1: what is told of a state, in each phase, and in which order the phases are asked for.
func TestLook(t *testing.T) {
	for _, c := range []struct {
		name string
		s    api.State
		want api.Note
	}{
		// 10 segments of 1000 bytes in a tenth of a second, twice as fast; a second, as nothing is known.
		{"fresh", fresh(), api.Note{Window: 655360, Thresh: greatest, Rate: 200000, Rto: 1000000, Part: api.PSlow}},
		{"flying", flying(), api.Note{Window: 1310720, Thresh: greatest, Rate: 400000, Rto: 200000, Part: api.PSlow}},
		{"gentle", gentle(), api.Note{Window: 1310720, Thresh: greatest, Rate: 400000, Rto: 200000, Part: api.PGentle}},
		{"done, but still slow", changed(flying(), func(s *api.State) { s.Hystart = api.Hystart{Done: true} }),
			api.Note{Window: 1310720, Thresh: greatest, Rate: 400000, Rto: 200000, Part: api.PSlow}},
		{"calm", calm(), api.Note{Window: 458752, Thresh: 458752, Rate: 87500, Rto: 200000, Part: api.PCalm}},
		{"just slow", changed(calm(), func(s *api.State) { s.Thresh++ }),
			api.Note{Window: 458752, Thresh: 458753, Rate: 140000, Rto: 200000, Part: api.PSlow}},
		{"calm, with a gentle Hystart", changed(gentle(), func(s *api.State) { s.Thresh = s.Window }),
			api.Note{Window: 1310720, Thresh: 1310720, Rate: 250000, Rto: 200000, Part: api.PCalm}},
		{"recovers, calm", changed(calm(), func(s *api.State) { s.Recover = 80001 }),
			api.Note{Window: 458752, Thresh: 458752, Rate: 87500, Rto: 200000, Part: api.PRecover}},
		{"recovers, slow", changed(flying(), func(s *api.State) { s.Recover = 80001 }),
			api.Note{Window: 1310720, Thresh: greatest, Rate: 400000, Rto: 200000, Part: api.PRecover}},
		{"recovers, gentle", changed(gentle(), func(s *api.State) { s.Recover = 100000 }),
			api.Note{Window: 1310720, Thresh: greatest, Rate: 400000, Rto: 200000, Part: api.PRecover}},
		{"recovers no more, gentle", changed(gentle(), func(s *api.State) { s.Recover = 80000 }),
			api.Note{Window: 1310720, Thresh: greatest, Rate: 400000, Rto: 200000, Part: api.PGentle}},
		{"later than once", changed(flying(), func(s *api.State) { s.Back = 3 }),
			api.Note{Window: 1310720, Thresh: greatest, Rate: 400000, Rto: 1600000, Part: api.PSlow}},
		{"as late as can be", changed(flying(), func(s *api.State) { s.Back = 64 }),
			api.Note{Window: 1310720, Thresh: greatest, Rate: 400000, Rto: 60000000, Part: api.PSlow}},
		{"another segment, and limited", changed(flying(), func(s *api.State) { s.Config.Seg, s.Limited = 1500, true }),
			api.Note{Window: 1310720, Thresh: greatest, Rate: 600000, Rto: 200000, Part: api.PSlow}},
		{"empty", api.State{}, api.Note{Err: api.ErrField}},
		{"may not be", changed(gentle(), func(s *api.State) { s.Back = 65 }), api.Note{Err: api.ErrField}},
	} {
		if got := engine.Look(c.s); got != c.want {
			t.Errorf("%s: Look(%+v): %+v, not %+v", c.name, c.s, got, c.want)
		}
	}
}

// P21.1: what is resolved: told of, or lost.
func TestResolved(t *testing.T) {
	for _, c := range []struct {
		s    api.State
		want int
	}{
		{fresh(), 0},
		{flying(), 80000},
		{changed(flying(), func(s *api.State) { s.Flight.Told = 7 }), 80000},
		{changed(flying(), func(s *api.State) { s.Flight = api.Flight{Sent: 9, Out: 9} }), 0},
		{changed(flying(), func(s *api.State) { s.Flight = api.Flight{Sent: most, Told: most} }), most},
		{changed(flying(), func(s *api.State) { s.Flight = api.Flight{Sent: most, Told: 1, Out: most - 1} }), 1},
		{changed(flying(), func(s *api.State) { s.Flight.Out = 20001 }), 0},
		{changed(flying(), func(s *api.State) { s.Thresh = 0 }), 0},
		{api.State{}, 0},
	} {
		if got := engine.Resolved(c.s); got != c.want {
			t.Errorf("Resolved(%+v): %v, not %v", c.s, got, c.want)
		}
	}
}
