package run_test

import (
	"slices"
	"strings"
	"sync"
	"testing"
	"time"

	"sawtooth/api"
	"sawtooth/run"
)

// writings are scripts with their bytes, worked out beforehand.
func writings() []struct {
	s api.Script
	b string
} {
	edges := api.Config{Seg: most, Max: fewest, First: 63, Grain: -64, Least: 64, Great: -65, Burst: 0}
	const edgeBytes = "\xfe\xff\xff\xff\xff\xff\xff\xff\xff\x01\xff\xff\xff\xff\xff\xff\xff\xff\xff\x01\x7e\x7f\x80\x01\x81\x01\x00"
	return []struct {
		s api.Script
		b string
	}{
		{api.Script{}, "\x00\x00\x00\x00\x00\x00\x00\x00"},
		{api.Script{Config: api.Config{Seg: 1, Max: 2, First: 3, Grain: 4, Least: 5, Great: 6, Burst: 7}}, "\x02\x04\x06\x08\x0a\x0c\x0e\x00"},
		{api.Script{Config: api.Config{Seg: -1, Max: -2, First: -3, Grain: -4, Least: -5, Great: -6, Burst: -7}}, "\x01\x03\x05\x07\x09\x0b\x0d\x00"},
		{api.Script{Config: edges}, edgeBytes + "\x00"},
		{api.Script{Config: usual(), Raw: [][]int{}}, usualBytes + "\x00"},
		{api.Script{Config: usual(), Raw: [][]int{nil}}, usualBytes + "\x02\x00"},
		{api.Script{Config: usual(), Raw: [][]int{{}, nil, {}}}, usualBytes + "\x06\x00\x00\x00"},
		{api.Script{Config: usual(), Raw: [][]int{{0}}}, usualBytes + "\x02\x02\x00"},
		{api.Script{Config: usual(), Raw: [][]int{{64}}}, usualBytes + "\x02\x02\x80\x01"},
		{api.Script{Config: usual(), Raw: [][]int{{send, 0, 1000, 0}}}, usualBytes + "\x02\x08\x0c\x00\xd0\x0f\x00"},
		{api.Script{Config: usual(), Raw: [][]int{{send, 0, 1000, 0}, {}, {ack, 100000, 1000, 100000}, {-1}}}, usualBytes + "\x08\x08\x0c\x00\xd0\x0f\x00\x00\x08\x02\xc0\x9a\x0c\xd0\x0f\xc0\x9a\x0c\x02\x01"},
		{api.Script{Config: edges, Raw: [][]int{{fewest, most}, {-65, 64}}}, edgeBytes + "\x04\x04\xff\xff\xff\xff\xff\xff\xff\xff\xff\x01\xfe\xff\xff\xff\xff\xff\xff\xff\xff\x01\x04\x81\x01\x80\x01"},
		{api.Script{Config: usual(), Raw: [][]int{slices.Repeat([]int{1}, 64)}}, usualBytes + "\x02\x80\x01" + strings.Repeat("\x02", 64)},
		{api.Script{Config: usual(), Raw: [][]int{slices.Repeat([]int{1}, 63)}}, usualBytes + "\x02\x7e" + strings.Repeat("\x02", 63)},
		{api.Script{Config: usual(), Raw: slices.Repeat([][]int{nil}, 64)}, usualBytes + "\x80\x01" + strings.Repeat("\x00", 64)},
		{api.Script{Config: usual(), Raw: slices.Repeat([][]int{{-1, 1}}, 8192)}, usualBytes + "\x80\x80\x01" + strings.Repeat("\x04\x01\x02", 8192)},
	}
}

// P24.2: the bytes of scripts, and the scripts whose bytes they are.
func TestWriteRead(t *testing.T) {
	for _, w := range writings() {
		if got := holdWrite(t, w.s); got != w.b {
			t.Errorf("Write(%+v): %q, not %q", w.s, got, w.b)
		}
		if s, err := holdRead(t, w.b); !sameScript(s, w.s) || err != api.OK {
			t.Errorf("Read(%q): %+v, %v, not %+v", w.b, s, err, w.s)
		}
	}
}

// P24.2: of each number of a configuration its bytes stand in their place, at all sizes.
func TestConfigNumbers(t *testing.T) {
	fields := []func(c *api.Config) *int{
		func(c *api.Config) *int { return &c.Seg },
		func(c *api.Config) *int { return &c.Max },
		func(c *api.Config) *int { return &c.First },
		func(c *api.Config) *int { return &c.Grain },
		func(c *api.Config) *int { return &c.Least },
		func(c *api.Config) *int { return &c.Great },
		func(c *api.Config) *int { return &c.Burst },
	}
	for i, field := range fields {
		for _, d := range digits() {
			var s api.Script
			*field(&s.Config) = d.n
			want := strings.Repeat("\x00", i) + d.b + strings.Repeat("\x00", 7-i)
			if got := holdWrite(t, s); got != want {
				t.Errorf("Write(%+v): %q, not %q", s, got, want)
			}
			if got, err := holdRead(t, want); !sameScript(got, s) || err != api.OK {
				t.Errorf("Read(%q): %+v, %v, not %+v", want, got, err, s)
			}
		}
	}
}

// refuseRead holds that b is no script's.
func refuseRead(t *testing.T, b string) {
	t.Helper()
	if s, err := holdRead(t, b); !empty(s) || err != api.ErrScript {
		t.Errorf("Read(%.200q): %+v, %v", b, s, err)
	}
	if report, err := run.Run(b); report != "" || err != api.ErrScript {
		t.Errorf("Run(%.200q): %q, %v", b, report, err)
	}
}

// P24.2, P24.3: each beginning of a script's bytes that is not all of them, and all of them with any byte behind: no script's.
func TestReadParts(t *testing.T) {
	refuseRead(t, "")
	for _, w := range writings() {
		for k := 0; k < len(w.b); k += 1 + k/100 {
			refuseRead(t, w.b[:k])
		}
		refuseRead(t, w.b[:len(w.b)-1])
		for behind := 0; behind < 256; behind += 1 + len(w.b)/1000 {
			refuseRead(t, w.b+string([]byte{byte(behind)}))
		}
		refuseRead(t, w.b+w.b)
	}
}

// P24.2, P24.3: counts below 0, of raw events and of numbers, at all sizes, with fewer, as many and more behind.
func TestCountsBelow(t *testing.T) {
	for _, d := range digits() {
		if d.n >= 0 {
			continue
		}
		for _, behind := range []string{"", "\x00", "\x02\x00", "\x00\x00", "\x04\x00\x00", strings.Repeat("\x00", 100)} {
			refuseRead(t, usualBytes+d.b+behind)
			refuseRead(t, usualBytes+"\x02"+d.b+behind)
			refuseRead(t, usualBytes+"\x04"+d.b+behind)
			refuseRead(t, usualBytes+"\x04\x00"+d.b+behind)
			refuseRead(t, usualBytes+"\x04\x02\x02"+d.b+behind)
		}
	}
}

// P24.2, P24.3: counts greater than what is behind them, by one and by far, up to the edge of 64 bits: told at once, and no room is made for them.
func TestCountsAbove(t *testing.T) {
	began := time.Now()
	for _, n := range []int{1, 2, 3, 63, 64, 1000, 1 << 20, 1 << 27, 1 << 31, 1 << 32, 1 << 36, 1 << 40, 1 << 47, 1 << 60, 1<<61 - 1, 1 << 61, 1 << 62, most - 1, most} {
		for _, have := range []int{0, 1, 2, 1000} {
			if have >= n {
				continue
			}
			refuseRead(t, usualBytes+spelt(n)+strings.Repeat("\x00", have))
			refuseRead(t, usualBytes+spelt(n)+strings.Repeat("\x02\x05", have))
			refuseRead(t, usualBytes+"\x02"+spelt(n)+strings.Repeat("\x00", have))
			refuseRead(t, usualBytes+"\x04\x02\x05"+spelt(n)+strings.Repeat("\x00", have))
		}
	}
	if took := time.Since(began); took > 20*time.Second {
		t.Errorf("it took %v", took)
	}
}

// spoiled are the bytes of numbers with one of them, that at place, written in digits that need not be there, in more than 64 bits have, or without an end.
func spoiled(l []int, place int) []string {
	ahead, n, behind := spelt(l[:place]...), spelt(l[place]), spelt(l[place+1:]...)
	last := len(n) - 1
	open := n[:last] + string([]byte{n[last] + 128})
	var all []string
	for _, odd := range []string{open + "\x00", open + "\x80\x00", open + strings.Repeat("\x80", 20) + "\x00", strings.Repeat("\x80", 9) + "\x02", strings.Repeat("\xff", 9) + "\x7f", strings.Repeat("\x80", 10) + "\x01", strings.Repeat("\xff", 40)} {
		all = append(all, ahead+odd+behind)
	}
	return all
}

// P24.2, P24.3: bytes of no number in the place of each number of a script, counts among them.
func TestReadSpoiled(t *testing.T) {
	for _, w := range writings() {
		if len(w.b) > 200 {
			continue
		}
		l, _ := trueNumbers(w.b)
		for place := range l {
			for _, b := range spoiled(l, place) {
				refuseRead(t, b)
			}
		}
	}
}

// P24.2, P24.3: all texts of some bytes behind a configuration, and all short ones that have none.
func TestReadAll(t *testing.T) {
	scripts := 0
	for _, b := range texts("\x00\x01\x02\x04\x80", 7) {
		if _, err := holdRead(t, usualBytes+b); err == api.OK {
			scripts++
		}
	}
	for _, b := range texts("\x00\x01\x80", 9) {
		if _, err := holdRead(t, b); err == api.OK {
			scripts++
		}
	}
	if scripts < 1000 {
		t.Errorf("%d scripts", scripts)
	}
}

// P24.2: what is read is in memory of its own: no two lists of it share any, nor do those of another answer; and what was read stays, whatever is done with what was written.
func TestReadMemory(t *testing.T) {
	for _, w := range writings() {
		before, _ := run.Read(w.b)
		for i := range w.s.Raw[:min(len(w.s.Raw), 100)] {
			s, _ := run.Read(w.b)
			list := s.Raw[i][:cap(s.Raw[i])]
			for j := range list {
				list[j] = -77
			}
			s.Raw[i] = w.s.Raw[i]
			if !sameScript(s, w.s) || !sameScript(before, w.s) {
				t.Fatalf("%+v and %+v, not %+v, once raw event %d was written to", s, before, w.s, i)
			}
			_ = append(s.Raw[:0], slices.Repeat([][]int{{-77}}, len(s.Raw))...)
			if !sameScript(before, w.s) {
				t.Fatalf("%+v, not %+v, once another answer was written to", before, w.s)
			}
		}
	}
	given := roomy(writings()[10].s)
	b := run.Write(given)
	for _, r := range given.Raw {
		clear(r[:cap(r)])
	}
	if b != writings()[10].b {
		t.Errorf("%q, once the script was cleared", b)
	}
}

// P24.2: scripts whose raw events are one and the same list, or lie side by side in one piece of memory, are written as others are.
func TestWriteShared(t *testing.T) {
	one := []int{send, 0, 1000, 0}
	b := run.Write(api.Script{Config: usual(), Raw: [][]int{one, one[:2], one[2:], one}})
	if want := usualBytes + "\x08\x08\x0c\x00\xd0\x0f\x00\x04\x0c\x00\x04\xd0\x0f\x00\x08\x0c\x00\xd0\x0f\x00"; b != want {
		t.Errorf("%q, not %q", b, want)
	}
	if s, err := run.Read(b); err != api.OK || !slices.Equal(s.Raw[0], one) || !slices.Equal(s.Raw[1], one[:2]) || !slices.Equal(s.Raw[2], one[2:]) || !slices.Equal(s.Raw[3], one) {
		t.Errorf("%+v, %v", s, err)
	}
}

// P24.2: very many raw events, and one of very many numbers.
func TestReadMany(t *testing.T) {
	for _, s := range []api.Script{
		{Config: usual(), Raw: slices.Repeat([][]int{{send, 64, -65, 8192}}, 200000)},
		{Config: usual(), Raw: [][]int{slices.Repeat([]int{-8193, 8191}, 400000)}},
	} {
		b := run.Write(s)
		if got, err := run.Read(b); !sameScript(got, s) || err != api.OK {
			t.Errorf("%d bytes of %d raw events are read as %d, %v", len(b), len(s.Raw), len(got.Raw), err)
		}
		if got, err := run.Read(b[:len(b)-1]); !empty(got) || err != api.ErrScript {
			t.Errorf("all but one of %d bytes are read as %d raw events, %v", len(b), len(got.Raw), err)
		}
	}
}

// P24.1, P24.2, P24.3: many calls at once answer what one does: nothing is kept from call to call.
func TestAtOnce(t *testing.T) {
	var all sync.WaitGroup
	wrong := make([]int, 8)
	for hand := range wrong {
		all.Go(func() {
			for range 20 {
				for _, w := range writings()[:12] {
					s, err := run.Read(w.b)
					report, runErr := run.Run(w.b)
					want, wantErr := trueRun(w.b)
					_, _, none := run.Take("\x80")
					if !sameScript(s, w.s) || err != api.OK || run.Write(w.s) != w.b || report != want || runErr != wantErr || none != api.ErrScript {
						wrong[hand]++
					}
				}
			}
		})
	}
	all.Wait()
	if slices.Max(wrong) > 0 {
		t.Errorf("wrong answers, hand by hand: %v", wrong)
	}
}
