package fleet_test

import (
	"runtime"
	"slices"
	"strings"
	"sync"
	"testing"
	"testing/synctest"
	"time"

	"sawtooth/api"
	"sawtooth/fleet"
)

// calls are one call behind the other, of lists of none, of one, and of more scripts than hands, by all of someHands.
func calls(times int) {
	mixed := slices.Repeat([]api.Script{clean(), wrong(), spoilt(), scriptOf()}, 10)
	late := append(slices.Repeat([]api.Script{clean()}, 20), wrong(), spoilt())
	for range times {
		for _, hands := range someHands() {
			for _, l := range [][]api.Script{nil, mixed[:1], mixed[1:2], mixed, late} {
				fleet.Play(l, hands)
				fleet.Count(l, hands)
				fleet.First(l, hands)
			}
		}
	}
}

// P23.1, P23.2, P23.3: no goroutine is left behind: what is still there at the end of such a test, and waits for ever, fails it.
func TestNoneLeft(t *testing.T) {
	synctest.Test(t, func(t *testing.T) {
		calls(3)
	})
}

// P23.1, P23.2, P23.3: many calls one behind the other leave no more goroutines than there were, once the last one has had time to go.
func TestManyCalls(t *testing.T) {
	before := runtime.NumGoroutine()
	calls(10)
	for range 5000 {
		if runtime.NumGoroutine() <= before {
			return
		}
		time.Sleep(time.Millisecond)
	}
	t.Errorf("%d goroutines, not %d", runtime.NumGoroutine(), before)
}

// P23.1, P23.2, P23.3: all hands have gone when the call answers. With one processor alone what was waited for is gone by then, but where it was held up now and then; what was not waited for has not even had its turn.
func TestWaitedFor(t *testing.T) {
	defer runtime.GOMAXPROCS(runtime.GOMAXPROCS(1))
	l := []api.Script{clean(), wrong(), spoilt()}
	for name, call := range map[string]func(hands int){
		"Play":  func(hands int) { fleet.Play(l, hands) },
		"Count": func(hands int) { fleet.Count(l, hands) },
		"First": func(hands int) { fleet.First(l, hands) },
	} {
		for _, hands := range []int{1, 2, 16} {
			late := 0
			for range 300 {
				before := runtime.NumGoroutine()
				call(hands)
				if runtime.NumGoroutine() > before {
					late++
				}
				runtime.Gosched()
			}
			if late > 100 {
				t.Errorf("%s by %d: something still ran behind %d of 300 calls", name, hands, late)
			}
		}
	}
}

// atWork is how many goroutines there are in package fleet.
func atWork() int {
	all := make([]byte, 1<<20)
	all = all[:runtime.Stack(all, true)]
	n := 0
	for one := range strings.SplitSeq(string(all), "\n\n") {
		if strings.Contains(one, "sawtooth/fleet.") {
			n++
		}
	}
	return n
}

// mostAtWork is how many hands there were at once, the caller, who waits for them, not counted.
func mostAtWork(call func()) int {
	for atWork() > 0 {
		time.Sleep(time.Millisecond)
	}
	done := make(chan struct{})
	go func() {
		defer close(done)
		call()
	}()
	n := 0
	for {
		select {
		case <-done:
			return n
		default:
			n = max(n, atWork()-1)
		}
	}
}

// P23.1, P23.2, P23.3: there are as many hands as hands says, 1 at least, and 16 at most.
func TestHands(t *testing.T) {
	ticks := scriptOf(slices.Repeat([][]int{{tick, 0, 0, 0}}, 2000)...)
	l := slices.Repeat([]api.Script{ticks}, 20)
	for name, call := range map[string]func(hands int){
		"Play":  func(hands int) { fleet.Play(l, hands) },
		"Count": func(hands int) { fleet.Count(l, hands) },
		"First": func(hands int) { fleet.First(l, hands) },
	} {
		for _, hands := range []int{fewest, -1, 0, 1, 2, 15, 16, 17, most} {
			want, n := min(max(hands, 1), 16), 0
			for range 20 {
				n = max(n, mostAtWork(func() { call(hands) }))
				if n >= want {
					break
				}
			}
			if n != want {
				t.Errorf("%s by %d: %d hands, not %d", name, hands, n, want)
			}
		}
	}
}

// P23.1, P23.2, P23.3: what was given is the caller's again as soon as the call answers: go test -race tells, if it is still read then.
func TestGivenBack(t *testing.T) {
	l := append(slices.Repeat([]api.Script{clean()}, 20), spoilt(), wrong(), spoilt())
	w := oneByOne(l)
	for _, hands := range []int{1, 2, 16} {
		for i := range 150 {
			given := roomy(l)
			var notes [][]api.Note
			switch i % 3 {
			case 0:
				notes = fleet.Play(given, hands)
			case 1:
				fleet.Count(given, hands)
			case 2:
				fleet.First(given, hands)
			}
			for j, s := range given {
				for _, r := range s.Raw {
					for k := range r {
						r[k]++
					}
				}
				given[j] = api.Script{}
			}
			if i%3 == 0 && !sameNotes(notes, w.notes) {
				t.Fatalf("by %d: %v, not %v", hands, notes, w.notes)
			}
		}
	}
}

// P23.1, P23.2, P23.3, P23.4: many calls at once answer what one does, also of one and the same list.
func TestAtOnce(t *testing.T) {
	all := lists()
	var want []told
	for _, l := range all {
		want = append(want, oneByOne(l))
	}
	var callers sync.WaitGroup
	wrong := make([]int, 16)
	for caller := range wrong {
		callers.Go(func() {
			for i := range all {
				at := (i + caller/2*7) % len(all)
				l, w, hands := all[at], want[at], 1+(caller*5+i)%16
				notes, total := fleet.Play(l, hands), fleet.Count(l, hands)
				first, has := fleet.First(l, hands)
				if !sameNotes(notes, w.notes) || total != w.total || first != w.first || has != w.has {
					wrong[caller]++
				}
			}
		})
	}
	callers.Wait()
	if slices.Max(wrong) > 0 {
		t.Errorf("wrong answers, caller by caller: %v", wrong)
	}
}
