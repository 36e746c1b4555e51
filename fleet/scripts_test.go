package fleet_test

import (
	"slices"
	"testing"

	"sawtooth/api"
	"sawtooth/engine"
	"sawtooth/event"
	"sawtooth/fleet"
)

// refusals are raw events that s refuses, each error in some of its kinds.
func refusals(s api.State) [][]int {
	now, out := s.Now, s.Flight.Out
	l := [][]int{
		nil, {}, {tick}, {tick, now, 0}, {tick, now, 0, 0, 0},
		{0, now, 0, 0}, {8, maxTime, 0, 0}, {most, now, 0, 0}, {fewest, now, 0, 0},
		{tick, -1, 0, 0}, {tick, maxTime + 1, 0, 0}, {ecn, most, 0, 0}, {ecn, fewest, 0, 0},
		{idle, now, 0, 1}, {ecn, now, -1, 0}, {send, now, 0, 0}, {send, now, maxBytes + 1, 0}, {loss, now, 1, 1}, {ack, now, 1, maxRtt + 1},
		{send, now, maxBytes, 0}, {ack, now, out + 1, 0}, {loss, maxTime, maxBytes, 0},
	}
	if now > 0 {
		l = append(l, []int{tick, now - 1, 0, 0}, []int{ack, now - 1, 1, 0}, []int{send, 0, 1, 0})
	}
	if out == 0 {
		l = append(l, []int{timeout, now, 0, 0})
	}
	return l
}

// stirred are numbers from 0 up to below n, the same ones for each seed.
func stirred(seed uint64) func(n int) int {
	s := seed*2862933555777941757 + 3037000493
	return func(n int) int {
		s = s*6364136223846793005 + 1442695040888963407
		return int((s >> 33) % uint64(n))
	}
}

// usualRaw is one as a sender tells them: full segments, and the others now and then.
func usualRaw(next func(n int) int, s api.State) []int {
	seg, at := s.Config.Seg, s.Now+next(20000)
	n := next(100)
	if n >= 40 && n < 85 && s.Flight.Out == 0 {
		n = 0
	}
	switch {
	case n < 40:
		return []int{send, at, seg * (1 + next(4)), 0}
	case n < 85:
		return []int{ack, at, max(1, min(s.Flight.Out, seg*(1+next(3)))), min(next(4), 1) * (40000 + s.Round.ID%9*5000 + next(50))}
	case n < 91:
		return []int{loss, at, max(1, min(s.Flight.Out, seg)), 0}
	case n < 93:
		return []int{ecn, at, 0, 0}
	case n < 95:
		return []int{timeout, at + 300000, 0, 0}
	case n < 97:
		return []int{idle, at, 0, 0}
	}
	return []int{tick, at + next(3000000), 0, 0}
}

// stirredScript has n raw events at most, none of which is refused, but, if spoil says so, an eighth of them.
func stirredScript(next func(n int) int, n int, spoil bool) api.Script {
	c := usual()
	c.Seg, c.First, c.Max, c.Burst = 1+next(1000), 2+next(20), 24+next(200), 1+next(10)
	s, _ := engine.New(c)
	script := api.Script{Config: c}
	for range n {
		r := usualRaw(next, s)
		if l := refusals(s); spoil && next(8) == 0 {
			r = l[next(len(l))]
		}
		e, err := event.Decode(r)
		if err == api.OK {
			s, err = engine.Do(s, e)
		}
		if err == api.OK || spoil {
			script.Raw = append(script.Raw, r)
		}
	}
	return script
}

// list is one of n scripts, of which every share-th one or so is spoilt, or wrong.
func list(seed uint64, n, share int) []api.Script {
	next := stirred(seed)
	var l []api.Script
	for range n {
		s := stirredScript(next, next(40), next(share) == 0)
		if next(share) == 0 {
			s.Config.Grain = 1000001 * next(2)
		}
		l = append(l, s)
	}
	return l
}

// lists are some of all lengths, from all clean to most of them not.
func lists() [][]api.Script {
	var l [][]api.Script
	for seed := range 40 {
		l = append(l, list(uint64(seed), seed, []int{1 << 30, 100, 20, 4, 2}[seed%5]))
	}
	return l
}

// P23.1, P23.2, P23.3, P23.4: over many lists of scripts every number of hands tells what one script behind the other does, again and again.
func TestLists(t *testing.T) {
	clean, far := 0, 0
	for _, l := range lists() {
		w := oneByOne(l)
		for range 2 {
			for hands := 1; hands <= 16; hands++ {
				hold(t, l, hands, w)
			}
		}
		holdAll(t, l)
		switch {
		case !w.has:
			clean++
		case w.first > 4:
			far++
		}
	}
	if clean < 8 || far < 4 {
		t.Errorf("%d lists all clean, and %d for some length", clean, far)
	}
}

func added(a, b api.Total) api.Total {
	return api.Total{Scripts: a.Scripts + b.Scripts, Wrong: a.Wrong + b.Wrong, Events: a.Events + b.Events, Refused: a.Refused + b.Refused, Told: a.Told + b.Told}
}

// holdTwo holds what is told of two lists, one behind the other, against what is told of each.
func holdTwo(t *testing.T, a, b []api.Script, hands int) {
	t.Helper()
	both := slices.Concat(a, b)
	if total, want := fleet.Count(both, hands), added(fleet.Count(a, hands), fleet.Count(b, 17-hands)); total != want {
		t.Fatalf("Count of %d and %d by %d: %+v, not %+v", len(a), len(b), hands, total, want)
	}
	if notes, want := fleet.Play(both, hands), slices.Concat(fleet.Play(a, hands), fleet.Play(b, 17-hands)); !sameNotes(notes, want) {
		t.Fatalf("Play of %d and %d by %d: %v, not %v", len(a), len(b), hands, notes, want)
	}
	place, has := fleet.First(a, hands)
	if !has {
		place, has = fleet.First(b, 17-hands)
		if has {
			place += len(a)
		}
	}
	if first, found := fleet.First(both, hands); first != place || found != has {
		t.Fatalf("First of %d and %d by %d: %d, %v, not %d, %v", len(a), len(b), hands, first, found, place, has)
	}
}

// P23.4: what is counted of two lists, one behind the other, is what is counted of both, added; also of one list, parted in each place.
func TestTwo(t *testing.T) {
	all := lists()
	for i, a := range all {
		for j, b := range all {
			if (i+j)%8 == 0 {
				holdTwo(t, a, b, 1+(i+2*j)%16)
			}
		}
		for k := range len(a) + 1 {
			holdTwo(t, a[:k], a[k:], 1+(i+k)%16)
		}
	}
}

// P23.4: the same scripts in another order: what is counted is the same, and what is told of each one too.
func TestOrder(t *testing.T) {
	for _, l := range lists() {
		turned := slices.Clone(l)
		slices.Reverse(turned)
		w := oneByOne(l)
		slices.Reverse(w.notes)
		for _, hands := range []int{1, 5, 16} {
			if total := fleet.Count(turned, hands); total != w.total {
				t.Fatalf("Count by %d: %+v, not %+v", hands, total, w.total)
			}
			if notes := fleet.Play(turned, hands); !sameNotes(notes, w.notes) {
				t.Fatalf("Play by %d: %v, not %v", hands, notes, w.notes)
			}
		}
	}
}

// P23.1, P23.2, P23.3: very many scripts of little, and a few of very many raw events.
func TestVeryMany(t *testing.T) {
	l := slices.Repeat([]api.Script{clean(), scriptOf(), scriptOf([]int{idle, 0, 0, 0})}, 1000)
	l[2900], l[2999] = spoilt(), wrong()
	w := oneByOne(l)
	if want := (api.Total{Scripts: 3000, Wrong: 1, Events: 6008, Refused: 5, Told: 5005000}); w.total != want || w.first != 2900 || !w.has {
		t.Fatalf("%+v, %d", w.total, w.first)
	}
	var raw [][]int
	for i := range 2000 {
		at := i * 1000000
		raw = append(raw, []int{send, at, 2000, 0}, []int{ack, at + 50000, 2000, 50000})
	}
	long := slices.Repeat([]api.Script{scriptOf(raw...)}, 20)
	long[19].Raw = append(slices.Clone(raw), []int{tick, 0, 0, 0})
	want := api.Total{Scripts: 20, Events: 80001, Refused: 1, Told: 80000000}
	longs := oneByOne(long)
	if longs.total != want || longs.first != 19 || !longs.has {
		t.Fatalf("%+v, %d, %v, not %+v", longs.total, longs.first, longs.has, want)
	}
	for _, hands := range []int{1, 2, 16, 17} {
		hold(t, l, hands, w)
		hold(t, long, hands, longs)
	}
}
