package run_test

import (
	"slices"
	"strings"
	"testing"

	"sawtooth/api"
	"sawtooth/run"
)

// P24.3: what is told of no notes, of one, and of some, worked out beforehand: of each the six numbers, in their order.
func TestTell(t *testing.T) {
	begun := api.Note{Window: 10 * one, Thresh: greatest, Rate: 200000, Rto: 1000000, Part: api.PSlow}
	for _, c := range []struct {
		notes []api.Note
		want  string
	}{
		{nil, "\x00"},
		{[]api.Note{}, "\x00"},
		{[]api.Note{{}}, "\x02\x00\x00\x00\x00\x00\x00"},
		{[]api.Note{{Err: 1, Window: 2, Thresh: 3, Rate: 4, Rto: 5, Part: 6}}, "\x02\x02\x04\x06\x08\x0a\x0c"},
		{[]api.Note{{Err: -1, Window: -2, Thresh: -3, Rate: -4, Rto: -5, Part: -6}}, "\x02\x01\x03\x05\x07\x09\x0b"},
		{[]api.Note{begun}, "\x02\x00\x80\x80\x50\x80\x80\x80\x80\x80\x04\x80\xb5\x18\x80\x89\x7a\x00"},
		{[]api.Note{{Err: api.ErrField}, {Part: api.PRecover}, {}}, "\x06\x92\x03\x00\x00\x00\x00\x00\x00\x00\x00\x00\x00\x06\x00\x00\x00\x00\x00\x00"},
		{[]api.Note{{Err: most, Window: fewest, Thresh: 63, Rate: -64, Rto: 64, Part: -65}}, "\x02\xfe\xff\xff\xff\xff\xff\xff\xff\xff\x01\xff\xff\xff\xff\xff\xff\xff\xff\xff\x01\x7e\x7f\x80\x01\x81\x01"},
		{slices.Repeat([]api.Note{{Rto: 1}}, 63), "\x7e" + strings.Repeat("\x00\x00\x00\x00\x02\x00", 63)},
		{slices.Repeat([]api.Note{{Rto: 1}}, 64), "\x80\x01" + strings.Repeat("\x00\x00\x00\x00\x02\x00", 64)},
		{slices.Repeat([]api.Note{{Err: api.ErrScript, Window: -1}}, 100000), "\xc0\x9a\x0c" + strings.Repeat("\xe0\x03\x01\x00\x00\x00\x00", 100000)},
	} {
		if got := holdTell(t, c.notes); got != c.want {
			t.Errorf("Tell of %d notes: %q, not %q", len(c.notes), got, c.want)
		}
	}
}

// noteOf is one of six numbers.
func noteOf(l []int) api.Note {
	return api.Note{Err: api.Errno(l[0]), Window: l[1], Thresh: l[2], Rate: l[3], Rto: l[4], Part: l[5]}
}

// P24.3: each of a note's six numbers at 0, at its bounds, and at both edges of 64 bits; unlike notes are told unlike.
func TestTellEdges(t *testing.T) {
	edges := near(fewest, -65, 0, 3, 64, 2*one, 10*one, 203, 240, 1000000, maxRtt, greatest, maxTime, most)
	told := map[string]api.Note{}
	for i := range 6 {
		for j := range 6 {
			for _, a := range edges {
				for _, b := range edges {
					l := make([]int, 6)
					l[i], l[j] = a, b
					n := noteOf(l)
					got := holdTell(t, []api.Note{n})
					if other, has := told[got]; has && other != n {
						t.Fatalf("%+v and %+v are both told as %q", n, other, got)
					}
					told[got] = n
				}
			}
		}
	}
	next := stirred(2)
	for range 2000 {
		l := make([]api.Note, next(10))
		for i := range l {
			l[i] = noteOf([]int{anyNumber(next), anyNumber(next), anyNumber(next), anyNumber(next), anyNumber(next), anyNumber(next)})
		}
		got := holdTell(t, l)
		numbers, ok := trueNumbers(got)
		if !ok || len(numbers) != 1+6*len(l) || numbers[0] != len(l) {
			t.Fatalf("Tell(%+v): %q, %v", l, got, numbers)
		}
		for i, n := range l {
			if noteOf(numbers[1+6*i:]) != n {
				t.Fatalf("note %d of %+v: %v", i, l, numbers)
			}
		}
	}
}

// configs are usual with each number at its bounds and beside them, and some in which more is odd.
func configs() []api.Config {
	l := []api.Config{
		usual(),
		{},
		{Seg: 1, Max: 4, First: 2, Grain: 1, Least: 1, Great: 1, Burst: 1},
		{Seg: 9000, Max: maxSegs, First: maxSegs, Grain: 1000000, Least: maxTime, Great: maxTime, Burst: 1000},
		{Seg: most, Max: most, First: most, Grain: most, Least: most, Great: most, Burst: most},
		{Seg: fewest, Max: fewest, First: fewest, Grain: fewest, Least: fewest, Great: fewest, Burst: fewest},
	}
	fields := []func(c *api.Config) *int{
		func(c *api.Config) *int { return &c.Seg },
		func(c *api.Config) *int { return &c.Max },
		func(c *api.Config) *int { return &c.First },
		func(c *api.Config) *int { return &c.Grain },
		func(c *api.Config) *int { return &c.Least },
		func(c *api.Config) *int { return &c.Great },
		func(c *api.Config) *int { return &c.Burst },
	}
	for _, field := range fields {
		for _, n := range near(fewest, 0, 2, 4, 10, 1000, 9000, 200000, 1000000, 60000000, maxSegs, maxTime, most) {
			c := usual()
			*field(&c) = n
			l = append(l, c)
		}
	}
	return l
}

// raws are what may be played, from nothing to all kinds, with errors and without.
func raws() [][][]int {
	return [][][]int{
		nil,
		{nil},
		{{tick, 0, 0, 0}},
		{{8, 0, 0, 0}},
		{{send, 0, 1, 0}, {}, {ack, 5, 1, 3}, {timeout, 5, 0, 0}},
		{{fewest, most, fewest, most}, {most}, {tick, 0, 0, 0, 0}},
		{{send, 0, 10000, 0}, {loss, 100000, 1000, 0}, {ecn, 120000, 0, 0}, {ack, 140000, 7000, 0}, {idle, 150000, 0, 0}, {ack, 150000, 2000, 50000}, {tick, 200000, 0, 0}, {send, 300000, 7000, 0}, {timeout, 1300000, 0, 0}},
	}
}

// P24.3: ErrConfig, and nothing beside it, of each configuration that may not be, whatever the raw events are; ErrScript, where the bytes are no script's besides; and a report of all others.
func TestRunConfigs(t *testing.T) {
	may := 0
	for _, c := range configs() {
		for _, raw := range raws() {
			b := written(api.Script{Config: c, Raw: raw})
			report, err := holdRun(t, b)
			want := api.OK
			if !trueConfig(c) {
				want = api.ErrConfig
			}
			if err != want || (report == "") != (want != api.OK) {
				t.Fatalf("Run of %+v: %q, %v", c, report, err)
			}
			for _, odd := range []string{b[:len(b)-1], b + "\x00", b + "\x80", b + b, "\x80\x00" + b, "\x80\x00" + b[1:]} {
				if report, err := holdRun(t, odd); report != "" || err != api.ErrScript {
					t.Fatalf("Run(%q): %q, %v", odd, report, err)
				}
			}
			if want == api.OK {
				may++
			}
		}
	}
	if all := len(configs()) * len(raws()); may < 100 || may > all-100 {
		t.Errorf("%d of %d may be", may, all)
	}
}

// P24.3: of a script without raw events the report is of no notes, whatever its configuration, if that may be.
func TestRunNone(t *testing.T) {
	for _, b := range []string{usualBytes + "\x00", "\x02\x08\x04\x02\x02\x02\x02\x00", "\xd0\x8c\x01\x80\x80\x80\x01\x80\x80\x80\x01\x80\x89\x7a\x80\x80\x80\x80\x80\x40\x80\x80\x80\x80\x80\x40\xd0\x0f\x00"} {
		if report, err := holdRun(t, b); report != "\x00" || err != api.OK {
			t.Errorf("Run(%q): %q, %v", b, report, err)
		}
	}
	for _, b := range []string{"\x00\x00\x00\x00\x00\x00\x00\x00", "\x02\x06\x04\x02\x02\x02\x02\x00"} {
		if report, err := holdRun(t, b); report != "" || err != api.ErrConfig {
			t.Errorf("Run(%q): %q, %v", b, report, err)
		}
	}
}

// P24.3: one raw event with each error, and one without: its note has the error, and all else as it began.
func TestRunOne(t *testing.T) {
	const begun = "\x80\x80\x50\x80\x80\x80\x80\x80\x04\x80\xb5\x18\x80\x89\x7a\x00"
	for _, c := range []struct {
		raw  []int
		want string
	}{
		{[]int{tick, 0, 0, 0}, "\x00"},
		{[]int{send, 0, 10000, 0}, "\x00"},
		{nil, "\x92\x03"},
		{[]int{tick, 0, 0}, "\x92\x03"},
		{[]int{tick, 0, 0, 0, 0}, "\x92\x03"},
		{[]int{send, 0, maxBytes + 1, 0}, "\x92\x03"},
		{[]int{8, 0, 0, 0}, "\x90\x03"},
		{[]int{most, fewest, most, fewest}, "\x90\x03"},
		{[]int{tick, -1, 0, 0}, "\x66"},
		{[]int{tick, maxTime + 1, 0, 0}, "\x66"},
		{[]int{send, 0, 10001, 0}, "\x96\x03"},
		{[]int{ack, 0, 1, 0}, "\x94\x03"},
		{[]int{timeout, 0, 0, 0}, "\x94\x03"},
	} {
		report, err := holdRun(t, written(api.Script{Config: usual(), Raw: [][]int{c.raw}}))
		if want := "\x02" + c.want + begun; report != want || err != api.OK {
			t.Errorf("Run of %v: %q, %v, not %q", c.raw, report, err, want)
		}
	}
}

// P24.3: very many raw events, every other one of them refused.
func TestRunMany(t *testing.T) {
	var raw [][]int
	for i := range 5000 {
		at := i * 1000
		raw = append(raw, []int{send, at, 10, 0}, []int{ack, at, 11, 0}, []int{ack, at + 1, 10, 0}, []int{0, at, 0, 0})
	}
	b := run.Write(api.Script{Config: usual(), Raw: raw})
	report, err := holdRun(t, b)
	l, ok := trueNumbers(report)
	if err != api.OK || !ok || len(l) != 1+6*len(raw) || l[0] != len(raw) {
		t.Fatalf("%d numbers, %v", len(l), err)
	}
	for i := range raw {
		if want := []int{0, int(api.ErrAck), 0, int(api.ErrKind)}[i%4]; l[1+6*i] != want {
			t.Fatalf("note %d has the error %d, not %d", i, l[1+6*i], want)
		}
	}
}
