package run_test

import (
	"slices"
	"testing"

	"sawtooth/api"
	"sawtooth/engine"
	"sawtooth/event"
	"sawtooth/run"
)

// refusals are raw events that s refuses, each error in some of its kinds.
func refusals(s api.State) [][]int {
	now, out := s.Now, s.Flight.Out
	l := [][]int{
		nil, {}, {tick}, {tick, now, 0}, {tick, now, 0, 0, 0},
		{0, now, 0, 0}, {8, maxTime, 0, 0}, {most, now, 0, 0}, {fewest, now, 0, 0},
		{tick, -1, 0, 0}, {tick, maxTime + 1, 0, 0}, {ecn, most, 0, 0}, {ecn, fewest, 0, 0},
		{idle, now, 0, 1}, {ecn, now, -1, 0}, {send, now, 0, 0}, {send, now, maxBytes + 1, 0}, {loss, now, 1, 1}, {ack, now, 1, maxRtt + 1},
		{send, now, maxBytes, 0}, {ack, now, out + 1, 0}, {loss, maxTime, maxBytes, 0},
	}
	if now > 0 {
		l = append(l, []int{tick, now - 1, 0, 0}, []int{ack, now - 1, 1, 0}, []int{send, 0, 1, 0})
	}
	if out == 0 {
		l = append(l, []int{timeout, now, 0, 0})
	}
	return l
}

// usualRaw is one as a sender tells them: full segments, and the others now and then.
func usualRaw(next func(n int) int, s api.State) []int {
	seg, at := s.Config.Seg, s.Now+next(20000)
	n := next(100)
	if n >= 40 && n < 85 && s.Flight.Out == 0 {
		n = 0
	}
	switch {
	case n < 40:
		return []int{send, at, seg * (1 + next(4)), 0}
	case n < 85:
		return []int{ack, at, max(1, min(s.Flight.Out, seg*(1+next(3)))), min(next(4), 1) * (40000 + s.Round.ID%9*5000 + next(50))}
	case n < 91:
		return []int{loss, at, max(1, min(s.Flight.Out, seg)), 0}
	case n < 93:
		return []int{ecn, at, 0, 0}
	case n < 95:
		return []int{timeout, at + 300000, 0, 0}
	case n < 97:
		return []int{idle, at, 0, 0}
	}
	return []int{tick, at + next(3000000), 0, 0}
}

// sentScript is one as a sender tells it, of n raw events, an eighth of which are refused, whatever was there ahead of them.
func sentScript(next func(n int) int, n int) api.Script {
	c := usual()
	c.Seg, c.First, c.Max, c.Burst = 1+next(1000), 2+next(20), 24+next(200), 1+next(10)
	s, _ := engine.New(c)
	script := api.Script{Config: c}
	for range n {
		r := usualRaw(next, s)
		if l := refusals(s); next(8) == 0 {
			r = l[next(len(l))]
		}
		script.Raw = append(script.Raw, r)
		if e, err := event.Decode(r); err == api.OK {
			s, _ = engine.Do(s, e)
		}
	}
	return script
}

// anyScript is one of numbers of any size, and of raw events that are none.
func anyScript(next func(n int) int, n int) api.Script {
	number := func() int { return anyNumber(next) }
	s := api.Script{Config: api.Config{Seg: number(), Max: number(), First: number(), Grain: number(), Least: number(), Great: number(), Burst: number()}}
	if next(2) == 0 {
		s.Config = usual()
	}
	for range n {
		r := make([]int, next(7))
		for i := range r {
			r[i] = number()
		}
		s.Raw = append(s.Raw, r)
	}
	return s
}

// scripts are one of slow start's rounds, and some of all lengths, of both kinds, with a few whose configuration may not be.
func scripts() []api.Script {
	slow, _ := slowRounds()
	l := []api.Script{slow}
	for seed := range 60 {
		next := stirred(uint64(seed))
		s := sentScript(next, seed*seed/8)
		if seed%10 == 9 {
			s.Config.Grain = 1000001 * next(2)
		}
		l = append(l, s, anyScript(next, seed/2))
	}
	return l
}

// P24.4: over many numbers what was put is taken, one behind the other, and what was behind them is left.
func TestPutTaken(t *testing.T) {
	next := stirred(3)
	for range 2000 {
		l := make([]int, next(20))
		for i := range l {
			l[i] = anyNumber(next)
		}
		behind := behinds()[next(len(behinds()))]
		b := holdPut(t, "", l...) + behind
		for i, want := range l {
			n, rest, err := holdTake(t, b)
			if n != want || err != api.OK {
				t.Fatalf("number %d of %v: %d, %v", i, l, n, err)
			}
			if rest != run.Put("", l[i+1:]...)+behind {
				t.Fatalf("%q is left behind number %d of %v", rest, i, l)
			}
			b = rest
		}
		if b != behind {
			t.Fatalf("%q is left behind %v, not %q", b, l, behind)
		}
	}
}

// P24.1, P24.4: put at once or one behind the other, it is the same.
func TestPutParts(t *testing.T) {
	next := stirred(4)
	for range 500 {
		l := make([]int, next(12))
		one := ""
		for i := range l {
			l[i] = anyNumber(next)
			one = run.Put(one, l[i])
		}
		k := next(len(l) + 1)
		if all, parts := run.Put("", l...), run.Put(run.Put("", l[:k]...), l[k:]...); all != one || all != parts {
			t.Fatalf("%v: %q, %q, %q", l, all, one, parts)
		}
	}
}

// P24.2, P24.4: over many scripts what was written is read; unlike ones are written unlike.
func TestWrittenRead(t *testing.T) {
	seen := map[string]api.Script{}
	for _, s := range scripts() {
		b := holdWrite(t, s)
		got, err := holdRead(t, b)
		if !sameScript(got, s) || err != api.OK {
			t.Fatalf("%+v is read as %+v, %v", s, got, err)
		}
		if other, has := seen[b]; has && !sameScript(other, s) {
			t.Fatalf("%+v and %+v are both written as %q", other, s, b)
		}
		seen[b] = s
	}
}

// holdAny holds of any bytes that there is one report, which is not empty, or one error; and that bytes which are read are what is written of the script that was read.
func holdAny(t *testing.T, b string) api.Errno {
	t.Helper()
	s, readErr := holdRead(t, b)
	if readErr == api.OK && run.Write(s) != b {
		t.Fatalf("%q is read as %+v, which is written as %q", b, s, run.Write(s))
	}
	report, err := holdRun(t, b)
	if !slices.Contains([]api.Errno{api.OK, api.ErrConfig, api.ErrScript}, err) || (err == api.ErrScript) != (readErr == api.ErrScript) {
		t.Fatalf("Run(%q): %q, %v; Read: %v", b, report, err, readErr)
	}
	if (report == "") != (err != api.OK) {
		t.Fatalf("Run(%q): %q beside %v", b, report, err)
	}
	return err
}

// P24.3, P24.4: over many scripts there is a report with a note for each raw event, all of whose numbers lie within their bounds; or an error.
func TestScripts(t *testing.T) {
	phases, refused, told := [4]int{}, map[api.Errno]int{}, map[api.Errno]int{}
	for _, s := range scripts() {
		b := run.Write(s)
		err := holdAny(t, b)
		told[err]++
		if err != api.OK {
			continue
		}
		notes := notesOf(t, b)
		if len(notes) != len(s.Raw) {
			t.Fatalf("%d notes of %d raw events", len(notes), len(s.Raw))
		}
		for i, n := range notes {
			if !within(n.Window, 2*one, s.Config.Max*one) || !within(n.Thresh, 2*one, greatest) || n.Rate < 1 || !within(n.Rto, s.Config.Least, s.Config.Great) || !within(n.Part, 0, 3) {
				t.Fatalf("%+v: note %d: %+v", s.Config, i, n)
			}
			phases[n.Part]++
			refused[n.Err]++
		}
	}
	for _, err := range []api.Errno{api.OK, api.ErrBack, api.ErrTime, api.ErrKind, api.ErrField, api.ErrAck, api.ErrWindow} {
		if refused[err] < 20 {
			t.Errorf("%v: %d", err, refused[err])
		}
	}
	if slices.Min(phases[:]) < 90 || told[api.OK] < 50 || told[api.ErrConfig] < 20 || told[api.ErrScript] > 0 {
		t.Errorf("phases %v, told %v", phases, told)
	}
}

// stir changes a byte of b, leaves one out, puts one in, or has two parts of it change places.
func stir(next func(n int) int, b string) string {
	i, j := next(len(b)+1), next(len(b)+1)
	i, j = min(i, j), max(i, j)
	some := []byte{0, 1, 2, 4, 8, 127, 128, 129, 255, byte(next(256))}
	odd := string(some[next(len(some)):][:1])
	switch next(4) {
	case 0:
		return b[:i] + odd + b[min(i+1, len(b)):]
	case 1:
		return b[:i] + b[min(i+1, len(b)):]
	case 2:
		return b[:i] + odd + b[i:]
	}
	return b[:i] + b[j:] + b[i:j]
}

// P24.4: bytes that were drawn, and those of scripts that were stirred up, a little and much: one report, or one error.
func TestAnyBytes(t *testing.T) {
	told := map[api.Errno]int{}
	next := stirred(5)
	for range 3000 {
		b := make([]byte, next(40))
		for i := range b {
			b[i] = byte(next(256)) >> next(9)
		}
		told[holdAny(t, string(b))]++
		told[holdAny(t, usualBytes+string(b))]++
	}
	for _, s := range scripts()[:40] {
		for range 40 {
			b := run.Write(s)
			for range 1 + next(3) {
				b = stir(next, b)
			}
			told[holdAny(t, b)]++
		}
	}
	if told[api.OK] < 100 || told[api.ErrConfig] < 100 || told[api.ErrScript] < 1000 {
		t.Errorf("%v", told)
	}
}

// P24.4: it is the same each time, in whatever order, and whatever was run in between.
func TestAgain(t *testing.T) {
	type answer struct {
		report string
		err    api.Errno
	}
	var first []answer
	var bytes []string
	for _, s := range scripts() {
		b := run.Write(s)
		report, err := run.Run(b)
		bytes, first = append(bytes, b), append(first, answer{report, err})
	}
	for range 2 {
		for i, b := range slices.Backward(bytes) {
			run.Run(b[:len(b)/2])
			if report, err := run.Run(b); (answer{report, err}) != first[i] {
				t.Fatalf("Run(%q), again: %q, %v, not %+v", b, report, err, first[i])
			}
		}
	}
}
