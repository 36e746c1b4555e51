package replay_test

import (
	"runtime"
	"slices"
	"sync"
	"testing"
	"testing/synctest"
	"time"

	"sawtooth/api"
	"sawtooth/replay"
)

// calls are one call after the other, of configurations that may be and that may not, with nothing, little and much to read.
func calls(times int) {
	ticks := slices.Repeat([][]int{{tick, 0, 0, 0}}, 1000)
	for range times {
		for _, c := range []api.Config{usual(), {}, {Seg: 1}} {
			for _, raw := range [][][]int{nil, {}, {nil}, ticks[:1], ticks[:2], long(), ticks} {
				replay.Play(c, raw)
				replay.Last(c, raw)
			}
		}
	}
}

// P22.1: no goroutine is left behind: what is still there at the end of such a test, and waits for ever, fails it.
func TestNoneLeft(t *testing.T) {
	synctest.Test(t, func(t *testing.T) {
		calls(20)
	})
}

// P22.1: many calls one behind the other leave no more goroutines than there were, once the last one has had time to go.
func TestManyCalls(t *testing.T) {
	before := runtime.NumGoroutine()
	calls(100)
	for range 5000 {
		if runtime.NumGoroutine() <= before {
			return
		}
		time.Sleep(time.Millisecond)
	}
	t.Errorf("%d goroutines, not %d", runtime.NumGoroutine(), before)
}

// P22.1: what reads has ended when the call answers. With one hand alone a goroutine that was waited for is gone by then, but where it was held up now and then; one that was not waited for has not even had its turn.
func TestWaitedFor(t *testing.T) {
	defer runtime.GOMAXPROCS(runtime.GOMAXPROCS(1))
	ticks := slices.Repeat([][]int{{tick, 0, 0, 0}}, 50)
	for _, c := range []api.Config{usual(), {}} {
		late := 0
		for range 1000 {
			before := runtime.NumGoroutine()
			replay.Play(c, ticks)
			if runtime.NumGoroutine() > before {
				late++
			}
			runtime.Gosched()
		}
		if late > 300 {
			t.Errorf("%+v: something still ran behind %d of 1000 calls", c, late)
		}
	}
}

// P22.1: what was given is the caller's again as soon as the call answers: go test -race tells, if it is still read then.
func TestGivenBack(t *testing.T) {
	for _, c := range []api.Config{usual(), {}} {
		want, _, wantErr := looped(c, long())
		for range 500 {
			raw := roomy(long())
			notes, err := replay.Play(c, raw)
			for i, r := range raw {
				for j := range r {
					r[j]++
				}
				raw[i] = nil
			}
			if !slices.Equal(notes, want) || err != wantErr {
				t.Fatalf("%+v: %+v, %v, not %+v, %v", c, notes, err, want, wantErr)
			}
		}
	}
}

// P22.1: what nobody wants is not read: twenty scripts of a configuration that may not be take less time than one of another.
func TestEnough(t *testing.T) {
	ticks := slices.Repeat([][]int{{tick, 0, 0, 0}}, 100000)
	took := func(c api.Config, times int) time.Duration {
		begin := time.Now()
		for range times {
			replay.Play(c, ticks)
		}
		return time.Since(begin)
	}
	for range 3 {
		if took(api.Config{}, 20) < took(usual(), 1) {
			return
		}
	}
	t.Errorf("%v of none, %v of one that may be", took(api.Config{}, 20), took(usual(), 1))
}

// P22.1, P22.3: many at once answer what one does, also of one and the same script.
func TestAtOnce(t *testing.T) {
	l := scripts()
	l = append(l, api.Script{}, api.Script{Raw: long()}, api.Script{Config: usual(), Raw: long()})
	var all sync.WaitGroup
	wrong := make([]int, 16)
	for hand := range wrong {
		all.Go(func() {
			for i := range l {
				s := l[(i+hand/2*7)%len(l)]
				wantNotes, wantLast, wantErr := looped(s.Config, s.Raw)
				notes, err := replay.Play(s.Config, s.Raw)
				last, lastErr := replay.Last(s.Config, s.Raw)
				if !slices.Equal(notes, wantNotes) || !same(last, wantLast) || err != wantErr || lastErr != wantErr {
					wrong[hand]++
				}
			}
		})
	}
	all.Wait()
	if slices.Max(wrong) > 0 {
		t.Errorf("wrong answers, hand by hand: %v", wrong)
	}
}

// P22.1: a script of very many raw events: each has its note.
func TestVeryMany(t *testing.T) {
	const rounds = 20000
	var raw [][]int
	for i := range rounds {
		at := i * 1000000
		raw = append(raw, []int{send, at, 2000, 0}, []int{ack, at + 50000, 2000, 50000}, []int{0}, []int{ack, at + 50000, 1, 0})
	}
	notes, last := holdPlay(t, usual(), raw)
	if len(notes) != 4*rounds || replay.Wrong(notes) != 2*rounds || last.Flight != (api.Flight{Sent: 2000 * rounds, Told: 2000 * rounds}) {
		t.Errorf("%d notes, %d of them wrong, and %+v", len(notes), replay.Wrong(notes), last)
	}
}
