package replay_test

import (
	"slices"
	"testing"

	"sawtooth/api"
	"sawtooth/engine"
	"sawtooth/event"
	"sawtooth/replay"
)

// stirred are numbers from 0 up to below n, the same ones for each seed.
func stirred(seed uint64) func(n int) int {
	s := seed*2862933555777941757 + 3037000493
	return func(n int) int {
		s = s*6364136223846793005 + 1442695040888963407
		return int((s >> 33) % uint64(n))
	}
}

// usualRaw is one as a sender tells them: full segments, times there and back that grow from round to round, up to where they fall, and the others now and then.
func usualRaw(next func(n int) int, s api.State, lossy bool) []int {
	seg := s.Config.Seg
	at := s.Now + next(20000)
	n := next(100)
	if !lossy && n >= 85 && next(40) > 0 {
		n = next(85)
	}
	if n >= 40 && n < 85 && s.Flight.Out == 0 {
		n = 0
	}
	switch {
	case n < 40:
		return []int{send, at, seg * (1 + next(4)), 0}
	case n < 85:
		return []int{ack, at, max(1, min(s.Flight.Out, seg*(1+next(3)))), min(next(4), 1) * (40000 + s.Round.ID%9*5000 + next(50))}
	case n < 91:
		return []int{loss, at, max(1, min(s.Flight.Out, seg)), 0}
	case n < 93:
		return []int{ecn, at, 0, 0}
	case n < 95:
		return []int{timeout, at + 300000, 0, 0}
	case n < 97:
		return []int{idle, at, 0, 0}
	}
	return []int{tick, at + next(3000000), 0, 0}
}

// script is one of n raw events, an eighth of which are refused, whatever was there ahead of them.
func script(next func(n int) int, c api.Config, n int) [][]int {
	s, _ := engine.New(c)
	lossy := next(3) == 0
	var raw [][]int
	for range n {
		r := usualRaw(next, s, lossy)
		if next(8) == 0 {
			l := refusals(s)
			r = l[next(len(l))].raw
		}
		raw = append(raw, r)
		if e, err := event.Decode(r); err == api.OK {
			s, _ = engine.Do(s, e)
		}
	}
	return raw
}

// stirredConfig has windows small enough that they come to the greatest one, and bursts of at most ten thousand bytes, as refusals have it.
func stirredConfig(next func(n int) int) api.Config {
	c := usual()
	c.Seg, c.First, c.Max = 1+next(1000), 2+next(20), 24+next(200)
	c.Burst = 1 + next(10)
	return c
}

// scripts are some of all lengths, each with its configuration.
func scripts() []api.Script {
	var l []api.Script
	for seed := range 60 {
		next := stirred(uint64(seed))
		c := stirredConfig(next)
		l = append(l, api.Script{Config: c, Raw: script(next, c, min(seed*seed, 400))})
	}
	return l
}

// P22.1, P22.3: over many scripts there is a note for each raw event, and what is refused leaves what was told.
func TestScripts(t *testing.T) {
	phases, refused, all := [4]int{}, map[api.Errno]int{}, 0
	for _, s := range scripts() {
		notes, _ := holdPlay(t, s.Config, s.Raw)
		if len(notes) != len(s.Raw) {
			t.Fatalf("%d notes of %d raw events", len(notes), len(s.Raw))
		}
		told := looked(s.Config)
		wrong := 0
		for i, note := range notes {
			phases[note.Part]++
			refused[note.Err]++
			all++
			if note.Err != api.OK {
				wrong++
				told.Err = note.Err
				if note != told {
					t.Fatalf("%+v, %v: note %d, %+v, not %+v", s.Config, s.Raw, i, note, told)
				}
			}
			told = note
		}
		if replay.Wrong(notes) != wrong || len(replay.Windows(notes)) != len(notes)-wrong {
			t.Fatalf("%+v: %d wrong, %d windows, not %d of %d", notes, replay.Wrong(notes), len(replay.Windows(notes)), wrong, len(notes))
		}
	}
	for _, err := range []api.Errno{api.ErrBack, api.ErrTime, api.ErrKind, api.ErrField, api.ErrAck, api.ErrWindow} {
		if refused[err] < 20 {
			t.Errorf("%v: %d of %d", err, refused[err], all)
		}
	}
	if refused[api.OK] < all/2 || slices.Min(phases[:]) < 100 {
		t.Errorf("%d of %d without an error, phases %v", refused[api.OK], all, phases)
	}
}

// looked is what is told ahead of all.
func looked(c api.Config) api.Note {
	s, _ := engine.New(c)
	return engine.Look(s)
}

// P22.3: a script without what was refused tells of the rest the same, and leads to the same state.
func TestWithout(t *testing.T) {
	left := 0
	for _, s := range scripts() {
		notes, last := holdPlay(t, s.Config, s.Raw)
		var raw [][]int
		var want []api.Note
		for i, note := range notes {
			if note.Err == api.OK {
				raw, want = append(raw, s.Raw[i]), append(want, note)
			}
		}
		got, err := replay.Play(s.Config, raw)
		if !slices.Equal(got, want) || err != api.OK {
			t.Fatalf("%+v, %v: %+v, %v, not %+v", s.Config, raw, got, err, want)
		}
		if state, err := replay.Last(s.Config, raw); !same(state, last) || err != api.OK {
			t.Fatalf("%+v, %v: %+v, %v, not %+v", s.Config, raw, state, err, last)
		}
		if replay.Wrong(got) != 0 || !slices.Equal(replay.Windows(got), replay.Windows(notes)) {
			t.Fatalf("%+v: %d wrong, and windows not as in %+v", got, replay.Wrong(got), notes)
		}
		left += len(s.Raw) - len(raw)
	}
	if left < 500 {
		t.Errorf("%d left out", left)
	}
}

// P22.3: the notes of the first part of a script are the beginning of those of all, and the state behind them is the one that the rest is played to.
func TestFirstParts(t *testing.T) {
	for _, s := range scripts()[:14] {
		notes, last := holdPlay(t, s.Config, s.Raw)
		for i := range len(s.Raw) + 1 {
			part, state := holdPlay(t, s.Config, s.Raw[:i:i])
			if !slices.Equal(part, notes[:i]) {
				t.Fatalf("%+v, the first %d of %v: %+v, not %+v", s.Config, i, s.Raw, part, notes[:i])
			}
			for j, r := range s.Raw[i:] {
				e, err := event.Decode(r)
				if err == api.OK {
					state, err = engine.Do(state, e)
				}
				if err != notes[i+j].Err {
					t.Fatalf("event %d of %v: %v, not %v", i+j, s.Raw, err, notes[i+j].Err)
				}
			}
			if !same(state, last) {
				t.Fatalf("%+v, behind the first %d of %v: %+v, not %+v", s.Config, i, s.Raw, state, last)
			}
		}
	}
}

// P22.3: played again, all is the same, whatever was played in between, and in whatever memory the script stands.
func TestAgain(t *testing.T) {
	l := scripts()
	type told struct {
		notes []api.Note
		last  api.State
	}
	var first []told
	for _, s := range l {
		notes, last := holdPlay(t, s.Config, s.Raw)
		first = append(first, told{notes, last})
	}
	for round := range 3 {
		for i, s := range slices.Backward(l) {
			raw := s.Raw
			if round == 1 {
				raw = packed(s.Raw)
			}
			notes, err := replay.Play(s.Config, raw)
			last, lastErr := replay.Last(s.Config, raw)
			if !slices.Equal(notes, first[i].notes) || !same(last, first[i].last) || err != api.OK || lastErr != api.OK {
				t.Fatalf("script %d, again: %+v, %+v, not %+v", i, notes, last, first[i])
			}
		}
	}
	one := []int{send, 0, 2500, 0}
	notes, last := holdPlay(t, usual(), [][]int{one, one, one, one, one})
	if replay.Wrong(notes) != 1 || notes[4].Err != api.ErrWindow || last.Flight.Out != 10000 {
		t.Errorf("one and the same five times: %+v, %+v", notes, last)
	}
}

// packed are the same raw events, side by side in one piece of memory: the spare room of each is those behind it.
func packed(raw [][]int) [][]int {
	all := slices.Concat(raw...)
	var l [][]int
	for at, r := 0, raw; len(r) > 0; at, r = at+len(r[0]), r[1:] {
		l = append(l, all[at:at+len(r[0])])
	}
	return l
}
