package hystart_test

import (
	"math"
	exact "math/big"
	"testing"

	"sawtooth/api"
	"sawtooth/hystart"
)

const (
	most    = math.MaxInt64
	fewest  = math.MinInt64
	longest = api.MaxRtt
)

// swift, gentle and done are the three phases, of one round's times behind another's.
func swift(last, least, many int) api.Hystart {
	return api.Hystart{Last: last, Least: least, Many: many}
}

func gentle(last, least, many, base, rounds int) api.Hystart {
	return api.Hystart{Last: last, Least: least, Many: many, Gentle: true, Base: base, Rounds: rounds}
}

func done(last, least, many int) api.Hystart {
	return api.Hystart{Last: last, Least: least, Many: many, Done: true}
}

// edges are around 0, around halves of the edges of 64 bits, and at both edges.
func edges() []int {
	return []int{fewest, fewest + 1, -1 << 62, -1<<31 - 1, -2, -1, 0, 1, 2, 1<<31 - 1, 1 << 31, 1 << 32, 1 << 62, most - 1, most}
}

func times() []int {
	return []int{fewest, -1, 0, 1, 2, 100, 32000, 112500, longest - 1, longest, longest + 1, most}
}

func counts() []int { return []int{fewest, -1, 0, 1, 2, 6, 7, 8, 9, most} }

func bases() []int { return []int{fewest, -1, 0, 1, 2, 100, 36000, longest, longest + 1, most} }

func gone() []int { return []int{fewest, -1, 0, 1, 3, 4, 5, 6, most} }

// all are all of those numbers beside each other, with each phase, and with both.
func all(use func(h api.Hystart)) {
	for _, last := range times() {
		for _, least := range times() {
			for _, many := range counts() {
				phases(swift(last, least, many), use)
			}
		}
	}
}

func phases(h api.Hystart, use func(h api.Hystart)) {
	for which := range 4 {
		h.Gentle, h.Done = which&1 != 0, which&2 != 0
		for _, h.Base = range bases() {
			for _, h.Rounds = range gone() {
				use(h)
			}
		}
	}
}

// mayBe is as the chapter's words say it, one behind the other.
func mayBe(h api.Hystart) bool {
	if h.Last < 0 || h.Last > longest {
		return false
	}
	if h.Least < 0 || h.Least > longest {
		return false
	}
	if h.Many < 0 || h.Many > 8 {
		return false
	}
	if h.Many == 0 && h.Least != 0 {
		return false
	}
	if h.Least == 0 && h.Many != 0 {
		return false
	}
	if h.Gentle {
		if h.Base < 1 || h.Base > longest || h.Rounds < 0 || h.Rounds > 5 {
			return false
		}
	} else if h.Base != 0 || h.Rounds != 0 {
		return false
	}
	if h.Done && h.Gentle {
		return false
	}
	return true
}

// trueThresh is in true numbers: Quo leaves the part behind the point out.
func trueThresh(last int) int {
	part := new(exact.Int).Quo(exact.NewInt(int64(last)), exact.NewInt(8))
	switch {
	case part.Cmp(exact.NewInt(4000)) < 0:
		return 4000
	case part.Cmp(exact.NewInt(16000)) > 0:
		return 16000
	}
	return int(part.Int64())
}

// trueSample is P10.2 by its words, one behind the other.
func trueSample(h api.Hystart, t int) (api.Hystart, api.Errno) {
	if !mayBe(h) || t < 1 || t > longest {
		return h, api.ErrField
	}
	n := h
	if h.Least == 0 {
		n.Least = t
	}
	if h.Least > t {
		n.Least = t
	}
	if h.Many < 8 {
		n.Many = h.Many + 1
	}
	if n.Many < 8 || h.Done {
		return n, api.OK
	}
	if h.Gentle {
		if n.Least < h.Base {
			n.Gentle = false
			n.Base = 0
			n.Rounds = 0
		}
		return n, api.OK
	}
	if h.Last == 0 {
		return n, api.OK
	}
	bound := new(exact.Int).Add(exact.NewInt(int64(h.Last)), exact.NewInt(int64(trueThresh(h.Last))))
	if exact.NewInt(int64(n.Least)).Cmp(bound) >= 0 {
		n.Gentle = true
		n.Base = n.Least
		n.Rounds = 0
	}
	return n, api.OK
}

// trueRound is P10.3 by its words, one behind the other.
func trueRound(h api.Hystart) (api.Hystart, api.Errno) {
	if !mayBe(h) {
		return h, api.ErrField
	}
	n := api.Hystart{Last: h.Least, Done: h.Done}
	if h.Gentle {
		if h.Rounds == 4 || h.Rounds == 5 {
			n.Done = true
		} else {
			n.Gentle, n.Base, n.Rounds = true, h.Base, h.Rounds+1
		}
	}
	return n, api.OK
}

// truePart is P10.3 by its words, in true numbers.
func truePart(h api.Hystart, n int) int {
	if h.Done || n < 0 {
		return 0
	}
	if h.Gentle {
		return int(new(exact.Int).Quo(exact.NewInt(int64(n)), exact.NewInt(4)).Int64())
	}
	return n
}

// sampled is h behind all of the times, each of which must be taken.
func sampled(t *testing.T, h api.Hystart, times ...int) api.Hystart {
	t.Helper()
	for i, by := range times {
		next, err := hystart.Sample(h, by)
		if err != api.OK {
			t.Fatalf("time %d, Sample(%v, %d): %d", i, h, by, err)
		}
		h = next
	}
	return h
}

// rounded is h behind a round, which must be taken.
func rounded(t *testing.T, h api.Hystart) api.Hystart {
	t.Helper()
	next, err := hystart.Round(h)
	if err != api.OK {
		t.Fatalf("Round(%v): %d", h, err)
	}
	return next
}

func like(n, many int) []int {
	var l []int
	for range many {
		l = append(l, n)
	}
	return l
}

// P10.1: each field just inside and just outside what it may be, and at both edges.
func TestCheck(t *testing.T) {
	for _, c := range []struct {
		h    api.Hystart
		want bool
	}{
		{swift(0, 0, 0), true},
		{swift(1, 0, 0), true},
		{swift(longest, 0, 0), true},
		{swift(-1, 0, 0), false},
		{swift(longest+1, 0, 0), false},
		{swift(most, 0, 0), false},
		{swift(fewest, 0, 0), false},
		{swift(0, 1, 1), true},
		{swift(0, longest-1, 1), true},
		{swift(0, longest, 1), true},
		{swift(0, longest+1, 1), false},
		{swift(0, -1, 1), false},
		{swift(0, -1, 0), false},
		{swift(0, most, 1), false},
		{swift(0, fewest, 1), false},
		{swift(0, 5, 8), true},
		{swift(0, 5, 7), true},
		{swift(0, 5, 9), false},
		{swift(0, 5, 0), false},
		{swift(0, 5, -1), false},
		{swift(0, 5, most), false},
		{swift(0, 5, fewest), false},
		{swift(0, 0, 1), false},
		{swift(0, 0, 8), false},
		{swift(0, 0, 9), false},
		{swift(0, 0, -1), false},
		{swift(0, 0, most), false},
		{swift(0, 0, fewest), false},
		{swift(longest, longest, 8), true},
		{swift(longest+1, longest, 8), false},
		{swift(longest, longest+1, 8), false},
		{swift(longest, longest, 9), false},
		{swift(9, 5, 3), true},
		{swift(5, 9, 3), true},
		{gentle(0, 0, 0, 1, 0), true},
		{gentle(0, 0, 0, longest, 0), true},
		{gentle(0, 0, 0, 0, 0), false},
		{gentle(0, 0, 0, -1, 0), false},
		{gentle(0, 0, 0, longest+1, 0), false},
		{gentle(0, 0, 0, most, 0), false},
		{gentle(0, 0, 0, fewest, 0), false},
		{gentle(0, 0, 0, 7, 1), true},
		{gentle(0, 0, 0, 7, 4), true},
		{gentle(0, 0, 0, 7, 5), true},
		{gentle(0, 0, 0, 7, 6), false},
		{gentle(0, 0, 0, 7, -1), false},
		{gentle(0, 0, 0, 7, most), false},
		{gentle(0, 0, 0, 7, fewest), false},
		{gentle(longest, longest, 8, longest, 5), true},
		{gentle(0, 5, 0, 7, 0), false},
		{gentle(0, 0, 5, 7, 0), false},
		{gentle(-1, 0, 0, 7, 0), false},
		{gentle(100, 5, 8, 7, 5), true},
		{api.Hystart{Base: 1}, false},
		{api.Hystart{Base: -1}, false},
		{api.Hystart{Base: longest}, false},
		{api.Hystart{Base: most}, false},
		{api.Hystart{Base: fewest}, false},
		{api.Hystart{Rounds: 1}, false},
		{api.Hystart{Rounds: -1}, false},
		{api.Hystart{Rounds: 5}, false},
		{api.Hystart{Rounds: most}, false},
		{api.Hystart{Rounds: fewest}, false},
		{api.Hystart{Base: 1, Rounds: 1}, false},
		{api.Hystart{Base: 1, Rounds: -1}, false},
		{done(0, 0, 0), true},
		{done(longest, longest, 8), true},
		{done(-1, 0, 0), false},
		{done(0, 5, 0), false},
		{done(0, 0, 5), false},
		{api.Hystart{Done: true, Base: 1}, false},
		{api.Hystart{Done: true, Rounds: 1}, false},
		{api.Hystart{Done: true, Base: 1, Rounds: 1}, false},
		{api.Hystart{Done: true, Gentle: true}, false},
		{api.Hystart{Done: true, Gentle: true, Base: 1}, false},
		{api.Hystart{Done: true, Gentle: true, Base: 7, Rounds: 5}, false},
		{api.Hystart{Last: most, Least: most, Many: most, Gentle: true, Base: most, Rounds: most}, false},
		{api.Hystart{Last: fewest, Least: fewest, Many: fewest, Done: true, Base: fewest, Rounds: fewest}, false},
	} {
		if is := hystart.Check(c.h); is != c.want {
			t.Errorf("Check(%+v): %v", c.h, is)
		}
	}
}

// P10.1: all fields beside each other, as the words say it.
func TestCheckAsTheWords(t *testing.T) {
	may, not := 0, 0
	all(func(h api.Hystart) {
		want := mayBe(h)
		if is := hystart.Check(h); is != want {
			t.Fatalf("Check(%+v): %v", h, is)
		}
		if want {
			may++
		} else {
			not++
		}
	})
	if may < 1000 || not < 1000 {
		t.Errorf("only %d that may be, and %d that may not", may, not)
	}
}

// P10.1: below, at and above both bounds, at each rest by 8, below 0, and at both edges.
func TestThresh(t *testing.T) {
	for _, c := range []struct{ last, want int }{
		{0, 4000},
		{1, 4000},
		{8, 4000},
		{4000, 4000},
		{31992, 4000},
		{31999, 4000},
		{32000, 4000},
		{32001, 4000},
		{32007, 4000},
		{32008, 4001},
		{32009, 4001},
		{32015, 4001},
		{32016, 4002},
		{100000, 12500},
		{100007, 12500},
		{100008, 12501},
		{127991, 15998},
		{127992, 15999},
		{127999, 15999},
		{128000, 16000},
		{128001, 16000},
		{128007, 16000},
		{128008, 16000},
		{128016, 16000},
		{longest, 16000},
		{longest + 1, 16000},
		{most - 1, 16000},
		{most, 16000},
		{-1, 4000},
		{-8, 4000},
		{-32000, 4000},
		{-32008, 4000},
		{-128000, 4000},
		{-200000, 4000},
		{fewest + 1, 4000},
		{fewest, 4000},
	} {
		if n := hystart.Thresh(c.last); n != c.want {
			t.Errorf("Thresh(%d): %d, not %d", c.last, n, c.want)
		}
	}
}

// P10.1: all small numbers, and all edges, in true numbers.
func TestThreshAsTheWords(t *testing.T) {
	for last := -200000; last <= 200000; last++ {
		if n := hystart.Thresh(last); n != trueThresh(last) {
			t.Fatalf("Thresh(%d): %d, not %d", last, n, trueThresh(last))
		}
	}
	for _, last := range edges() {
		if n := hystart.Thresh(last); n != trueThresh(last) {
			t.Fatalf("Thresh(%d): %d, not %d", last, n, trueThresh(last))
		}
	}
}

// P10.2: Least and Many, and how a round becomes gentle, and swift again.
func TestSample(t *testing.T) {
	for _, c := range []struct {
		h    api.Hystart
		t    int
		want api.Hystart
	}{
		{swift(0, 0, 0), 1, swift(0, 1, 1)},
		{swift(0, 0, 0), 500, swift(0, 500, 1)},
		{swift(0, 0, 0), longest, swift(0, longest, 1)},
		{swift(0, 500, 1), 499, swift(0, 499, 2)},
		{swift(0, 500, 1), 500, swift(0, 500, 2)},
		{swift(0, 500, 1), 501, swift(0, 500, 2)},
		{swift(0, 500, 6), 1, swift(0, 1, 7)},
		{swift(0, 500, 7), 600, swift(0, 500, 8)},
		{swift(0, 500, 8), 600, swift(0, 500, 8)},
		{swift(0, 500, 8), 400, swift(0, 400, 8)},
		{swift(0, longest, 7), longest, swift(0, longest, 8)},
		{swift(0, 1, 8), 1, swift(0, 1, 8)},

		{swift(100000, 0, 0), 120000, swift(100000, 120000, 1)},
		{swift(100000, 120000, 5), 120000, swift(100000, 120000, 6)},
		{swift(100000, 120000, 6), 120000, swift(100000, 120000, 7)},
		{swift(100000, 120000, 7), 120000, gentle(100000, 120000, 8, 120000, 0)},
		{swift(100000, 120000, 8), 120000, gentle(100000, 120000, 8, 120000, 0)},
		{swift(100000, 120000, 7), 130000, gentle(100000, 120000, 8, 120000, 0)},
		{swift(100000, 120000, 7), 112501, gentle(100000, 112501, 8, 112501, 0)},
		{swift(100000, 120000, 7), 112500, gentle(100000, 112500, 8, 112500, 0)},
		{swift(100000, 120000, 7), 112499, swift(100000, 112499, 8)},
		{swift(100000, 112500, 7), 120000, gentle(100000, 112500, 8, 112500, 0)},
		{swift(100000, 112499, 7), 120000, swift(100000, 112499, 8)},
		{swift(100000, 112499, 8), 120000, swift(100000, 112499, 8)},
		{swift(0, 120000, 7), 120000, swift(0, 120000, 8)},
		{swift(0, longest, 8), longest, swift(0, longest, 8)},
		{swift(1, 4001, 7), 5000, gentle(1, 4001, 8, 4001, 0)},
		{swift(1, 4000, 7), 5000, swift(1, 4000, 8)},
		{swift(500000, 516000, 7), longest, gentle(500000, 516000, 8, 516000, 0)},
		{swift(500000, 515999, 7), longest, swift(500000, 515999, 8)},
		{swift(longest-16000, longest, 7), longest, gentle(longest-16000, longest, 8, longest, 0)},
		{swift(longest-15999, longest, 7), longest, swift(longest-15999, longest, 8)},
		{swift(longest, longest, 7), longest, swift(longest, longest, 8)},

		{gentle(100000, 0, 0, 120000, 1), 110000, gentle(100000, 110000, 1, 120000, 1)},
		{gentle(100000, 110000, 6, 120000, 1), 110000, gentle(100000, 110000, 7, 120000, 1)},
		{gentle(100000, 110000, 7, 120000, 1), 110000, swift(100000, 110000, 8)},
		{gentle(100000, 130000, 7, 120000, 1), 119999, swift(100000, 119999, 8)},
		{gentle(100000, 130000, 7, 120000, 1), 120000, gentle(100000, 120000, 8, 120000, 1)},
		{gentle(100000, 130000, 7, 120000, 1), 120001, gentle(100000, 120001, 8, 120000, 1)},
		{gentle(100000, 119999, 7, 120000, 5), 130000, swift(100000, 119999, 8)},
		{gentle(100000, 120000, 8, 120000, 0), 120000, gentle(100000, 120000, 8, 120000, 0)},
		{gentle(100000, 120000, 8, 120000, 0), 140000, gentle(100000, 120000, 8, 120000, 0)},
		{gentle(100000, 120000, 8, 120000, 5), 119999, swift(100000, 119999, 8)},
		{gentle(100000, 130000, 8, 120000, 3), 140000, gentle(100000, 130000, 8, 120000, 3)},
		{gentle(0, 7, 7, 1, 3), 1, gentle(0, 1, 8, 1, 3)},
		{gentle(0, longest, 7, longest, 3), longest - 1, swift(0, longest-1, 8)},
		{gentle(0, 9, 8, 7, 2), 6, swift(0, 6, 8)},

		{done(100000, 0, 0), 120000, done(100000, 120000, 1)},
		{done(100000, 120000, 6), 120000, done(100000, 120000, 7)},
		{done(100000, 120000, 7), 120000, done(100000, 120000, 8)},
		{done(100000, 120000, 8), 120000, done(100000, 120000, 8)},
		{done(100000, 120000, 8), 130000, done(100000, 120000, 8)},
		{done(100000, 120000, 8), 5, done(100000, 5, 8)},
	} {
		if h, err := hystart.Sample(c.h, c.t); h != c.want || err != api.OK {
			t.Errorf("Sample(%+v, %d): %+v, %d, not %+v", c.h, c.t, h, err, c.want)
		}
	}
}

// P10.2: what may not be, and what is no time, at each edge; h stands beside the error, as it was.
func TestSampleErrors(t *testing.T) {
	good := []api.Hystart{swift(0, 0, 0), swift(100000, 120000, 7), gentle(100000, 120000, 8, 120000, 4), done(5, 4, 3)}
	for _, h := range good {
		for _, by := range []int{0, -1, -2, -120000, -longest, fewest + 1, fewest, longest + 1, longest + 2, 1 << 31, 1<<32 + 5, 1 << 62, most - 1, most} {
			if n, err := hystart.Sample(h, by); n != h || err != api.ErrField {
				t.Errorf("Sample(%+v, %d): %+v, %d", h, by, n, err)
			}
		}
		for _, by := range []int{1, 2, longest - 1, longest} {
			if _, err := hystart.Sample(h, by); err != api.OK {
				t.Errorf("Sample(%+v, %d): %d", h, by, err)
			}
		}
	}
	for _, h := range bad() {
		for _, by := range []int{fewest, -1, 0, 1, 5, 120000, longest, longest + 1, most} {
			if n, err := hystart.Sample(h, by); n != h || err != api.ErrField {
				t.Errorf("Sample(%+v, %d): %+v, %d", h, by, n, err)
			}
		}
	}
}

// bad may not be, each by one field, or two beside each other.
func bad() []api.Hystart {
	return []api.Hystart{
		swift(-1, 0, 0), swift(longest+1, 120000, 7), swift(most, 0, 0), swift(fewest, 120000, 8),
		swift(0, -1, 1), swift(0, longest+1, 8), swift(100000, most, 7), swift(100000, fewest, 7),
		swift(0, 5, 0), swift(0, 0, 5), swift(0, 5, 9), swift(0, 5, -1), swift(0, 5, most), swift(0, 5, fewest),
		gentle(0, 0, 0, 0, 0), gentle(0, 0, 0, -1, 0), gentle(0, 0, 0, longest+1, 0), gentle(0, 5, 8, most, 4),
		gentle(0, 0, 0, 7, -1), gentle(0, 0, 0, 7, 6), gentle(0, 5, 8, 7, most), gentle(0, 5, 8, 7, fewest),
		{Base: 1}, {Base: -1}, {Rounds: 1}, {Rounds: -1}, {Base: 7, Rounds: 4},
		{Done: true, Base: 1}, {Done: true, Rounds: 1}, {Done: true, Gentle: true},
		{Done: true, Gentle: true, Base: 7, Rounds: 4}, {Last: 9, Least: 5, Many: 8, Gentle: true, Done: true, Base: 7},
		{Last: most, Least: most, Many: most, Gentle: true, Base: most, Rounds: most},
		{Last: fewest, Least: fewest, Many: fewest, Done: true, Base: fewest, Rounds: fewest},
	}
}

// P10.2: all that may be and that may not, with times of each kind, as the words say it; what may be stays so.
func TestSampleAsTheWords(t *testing.T) {
	all(func(h api.Hystart) {
		by := []int{0, 1, 2, 100, 36000, longest, longest + 1}
		if !mayBe(h) {
			by = by[2:3]
		}
		for _, by := range by {
			n, err := hystart.Sample(h, by)
			if want, wantErr := trueSample(h, by); n != want || err != wantErr {
				t.Fatalf("Sample(%+v, %d): %+v, %d, not %+v, %d", h, by, n, err, want, wantErr)
			}
			if hystart.Check(n) != mayBe(h) {
				t.Fatalf("Sample(%+v, %d): %+v: %v", h, by, n, !mayBe(h))
			}
		}
	})
}

// lasts are where Thresh turns, at each rest by 8, and at both ends of a time.
func lasts() []int {
	l := []int{0, 1, 2, 100, 4000, 60000, longest / 2, longest - 16001, longest - 16000, longest - 15999, longest - 1, longest}
	for _, n := range []int{32000, 100000, 128000} {
		for by := -9; by <= 9; by++ {
			l = append(l, n+by)
		}
	}
	return l
}

// P10.2: without Gentle, the least time just below, at, and just above Last and Thresh of Last, whether it comes first or last, with 6, 7 and 8 times ahead; and what is Done beside it.
func TestSampleAroundTheBound(t *testing.T) {
	for _, last := range lasts() {
		bound := last + trueThresh(last)
		for least := bound - 2; least <= bound+2; least++ {
			if least > longest {
				continue
			}
			for many := 5; many <= 8; many++ {
				for _, h := range []api.Hystart{swift(last, least, many), swift(last, min(least+7, longest), many)} {
					becomes(t, h, least, many >= 7 && last != 0 && least >= bound)
					h.Done = true
					becomes(t, h, least, false)
				}
				becomes(t, swift(last, least, many), min(least+7, longest), many >= 7 && last != 0 && least >= bound)
			}
		}
	}
}

// becomes holds Sample against whether it is to be gentle then, with the least of both times as its Base.
func becomes(t *testing.T, h api.Hystart, by int, is bool) {
	t.Helper()
	want := h
	want.Least, want.Many = min(h.Least, by), min(h.Many+1, 8)
	if is {
		want.Gentle, want.Base = true, want.Least
	}
	if n, err := hystart.Sample(h, by); n != want || err != api.OK {
		t.Errorf("Sample(%+v, %d): %+v, %d, not %+v", h, by, n, err, want)
	}
}

// P10.2: with Gentle, the least time just below, at, and just above Base, whatever Last is, with 6, 7 and 8 times ahead, and in each round.
func TestSampleAroundTheBase(t *testing.T) {
	for _, base := range []int{2, 3, 100, 36000, 112500, longest - 1, longest} {
		for least := max(base-2, 1); least <= min(base+2, longest); least++ {
			for _, last := range []int{0, 1, 100, 100000, longest} {
				for many := 5; many <= 8; many++ {
					for rounds := range 6 {
						leaves(t, gentle(last, least, many, base, rounds), longest)
						leaves(t, gentle(last, least, many, base, rounds), least)
						leaves(t, gentle(last, longest, many, base, rounds), least)
					}
				}
			}
		}
	}
}

// leaves holds Sample of what is gentle against whether it is to be swift then.
func leaves(t *testing.T, h api.Hystart, by int) {
	t.Helper()
	want := h
	want.Least, want.Many = min(h.Least, by), min(h.Many+1, 8)
	if want.Many == 8 && want.Least < h.Base {
		want = swift(want.Last, want.Least, 8)
	}
	if n, err := hystart.Sample(h, by); n != want || err != api.OK {
		t.Errorf("Sample(%+v, %d): %+v, %d, not %+v", h, by, n, err, want)
	}
}

// P10.2: one round, time by time: seven times tell nothing; and what is swift again may be gentle again, by a lesser Base.
func TestOneRound(t *testing.T) {
	h := swift(100000, 0, 0)
	for i := range 7 {
		h = sampled(t, h, 120000+i)
		if h != swift(100000, 120000, i+1) {
			t.Fatalf("behind %d times: %+v", i+1, h)
		}
	}
	for _, c := range []struct {
		by   int
		want api.Hystart
	}{
		{125000, gentle(100000, 120000, 8, 120000, 0)},
		{125000, gentle(100000, 120000, 8, 120000, 0)},
		{115000, swift(100000, 115000, 8)},
		{125000, gentle(100000, 115000, 8, 115000, 0)},
		{112500, swift(100000, 112500, 8)},
		{112500, gentle(100000, 112500, 8, 112500, 0)},
		{112499, swift(100000, 112499, 8)},
		{200000, swift(100000, 112499, 8)},
		{200000, swift(100000, 112499, 8)},
	} {
		if h = sampled(t, h, c.by); h != c.want {
			t.Fatalf("with %d: %+v, not %+v", c.by, h, c.want)
		}
	}
}

// P10.3: Round without Gentle, with it, in each of its rounds, and if Done.
func TestRound(t *testing.T) {
	for _, c := range []struct{ h, want api.Hystart }{
		{swift(0, 0, 0), swift(0, 0, 0)},
		{swift(100, 0, 0), swift(0, 0, 0)},
		{swift(0, 7, 1), swift(7, 0, 0)},
		{swift(100, 7, 8), swift(7, 0, 0)},
		{swift(7, 100, 8), swift(100, 0, 0)},
		{swift(longest, longest, 8), swift(longest, 0, 0)},
		{gentle(0, 0, 0, 50, 0), gentle(0, 0, 0, 50, 1)},
		{gentle(100, 0, 0, 50, 0), gentle(0, 0, 0, 50, 1)},
		{gentle(100, 7, 3, 50, 1), gentle(7, 0, 0, 50, 2)},
		{gentle(100, 7, 8, 50, 2), gentle(7, 0, 0, 50, 3)},
		{gentle(100, 7, 8, 50, 3), gentle(7, 0, 0, 50, 4)},
		{gentle(100, 7, 8, 50, 4), done(7, 0, 0)},
		{gentle(100, 7, 8, 50, 5), done(7, 0, 0)},
		{gentle(100, 0, 0, 50, 4), done(0, 0, 0)},
		{gentle(0, 0, 0, 1, 5), done(0, 0, 0)},
		{gentle(longest, longest, 8, longest, 3), gentle(longest, 0, 0, longest, 4)},
		{gentle(longest, longest, 8, longest, 4), done(longest, 0, 0)},
		{done(0, 0, 0), done(0, 0, 0)},
		{done(100, 0, 0), done(0, 0, 0)},
		{done(100, 7, 8), done(7, 0, 0)},
		{done(longest, longest, 1), done(longest, 0, 0)},
	} {
		if h, err := hystart.Round(c.h); h != c.want || err != api.OK {
			t.Errorf("Round(%+v): %+v, %d, not %+v", c.h, h, err, c.want)
		}
	}
}

// P10.3: of what may not be; h stands beside the error, as it was.
func TestRoundErrors(t *testing.T) {
	for _, h := range bad() {
		if n, err := hystart.Round(h); n != h || err != api.ErrField {
			t.Errorf("Round(%+v): %+v, %d", h, n, err)
		}
	}
}

// P10.3: all that may be and that may not, as the words say it; what may be stays so.
func TestRoundAsTheWords(t *testing.T) {
	all(func(h api.Hystart) {
		n, err := hystart.Round(h)
		if want, wantErr := trueRound(h); n != want || err != wantErr {
			t.Fatalf("Round(%+v): %+v, %d, not %+v, %d", h, n, err, want, wantErr)
		}
		if hystart.Check(n) != mayBe(h) {
			t.Fatalf("Round(%+v): %+v: %v", h, n, !mayBe(h))
		}
	})
}

// P10.3: below 0, at 0 and above it, at each rest by 4, and at both edges.
func TestPart(t *testing.T) {
	for _, c := range []struct{ n, swift, gentle int }{
		{0, 0, 0},
		{1, 1, 0},
		{2, 2, 0},
		{3, 3, 0},
		{4, 4, 1},
		{5, 5, 1},
		{6, 6, 1},
		{7, 7, 1},
		{8, 8, 2},
		{9, 9, 2},
		{65536, 65536, 16384},
		{65539, 65539, 16384},
		{524288, 524288, 131072},
		{1 << 62, 1 << 62, 1 << 60},
		{most - 3, most - 3, 1<<61 - 1},
		{most - 1, most - 1, 1<<61 - 1},
		{most, most, 1<<61 - 1},
		{-1, 0, 0},
		{-3, 0, 0},
		{-4, 0, 0},
		{-8, 0, 0},
		{-1 << 62, 0, 0},
		{fewest + 1, 0, 0},
		{fewest, 0, 0},
	} {
		for _, h := range []api.Hystart{swift(0, 0, 0), swift(100000, 120000, 8), swift(longest, longest, 8), {Base: 7, Rounds: 3}, swift(-1, 0, 9)} {
			if n := hystart.Part(h, c.n); n != c.swift {
				t.Errorf("Part(%+v, %d): %d, not %d", h, c.n, n, c.swift)
			}
		}
		for _, h := range []api.Hystart{gentle(0, 0, 0, 7, 0), gentle(100000, 120000, 8, 120000, 4), gentle(5, 5, 5, longest, 5), {Gentle: true}, gentle(-1, 0, 9, most, fewest)} {
			if n := hystart.Part(h, c.n); n != c.gentle {
				t.Errorf("Part(%+v, %d): %d, not %d", h, c.n, n, c.gentle)
			}
		}
		for _, h := range []api.Hystart{done(0, 0, 0), done(100000, 120000, 8), {Done: true, Gentle: true}, {Done: true, Gentle: true, Base: 7, Rounds: 4}, {Done: true, Base: 7}, done(-1, 0, 9)} {
			if n := hystart.Part(h, c.n); n != 0 {
				t.Errorf("Part(%+v, %d): %d, not 0", h, c.n, n)
			}
		}
	}
}

// P10.3: all that may be and that may not, with numbers at all edges, and all small numbers, as the words say it.
func TestPartAsTheWords(t *testing.T) {
	all(func(h api.Hystart) {
		for _, n := range []int{fewest, -4, 0, 3, 65539, most} {
			if part := hystart.Part(h, n); part != truePart(h, n) {
				t.Fatalf("Part(%+v, %d): %d, not %d", h, n, part, truePart(h, n))
			}
		}
	})
	for _, h := range []api.Hystart{swift(5, 5, 5), gentle(5, 5, 5, 5, 5), done(5, 5, 5), {Gentle: true, Done: true}} {
		numbers := edges()
		for n := -100; n <= 100; n++ {
			numbers = append(numbers, n)
		}
		for _, n := range numbers {
			if part := hystart.Part(h, n); part != truePart(h, n) {
				t.Fatalf("Part(%+v, %d): %d, not %d", h, n, part, truePart(h, n))
			}
		}
	}
}

// The chapter's example: of a round with 100000, eight times 120000.
func TestExample(t *testing.T) {
	h := rounded(t, sampled(t, api.Hystart{}, 100000))
	h = sampled(t, h, like(120000, 7)...)
	if h.Gentle {
		t.Errorf("behind seven: %+v", h)
	}
	h = sampled(t, h, 120000)
	if !h.Gentle || h != gentle(100000, 120000, 8, 120000, 0) {
		t.Errorf("behind eight: %+v", h)
	}
}

// The fourth example of the whole: an eighth longer, a quarter as fast; and five rounds more, each with its times, and it is over.
func TestExampleOfTheWhole(t *testing.T) {
	h := rounded(t, sampled(t, api.Hystart{}, like(100000, 20)...))
	h = sampled(t, h, like(112500, 8)...)
	if !h.Gentle || hystart.Part(h, 65536) != 16384 {
		t.Fatalf("an eighth longer: %+v", h)
	}
	for i := range 5 {
		if h.Done || !h.Gentle {
			t.Fatalf("behind %d rounds: %+v", i, h)
		}
		h = sampled(t, rounded(t, h), like(112500, 12)...)
	}
	if !h.Done || h.Gentle || hystart.Part(h, 65536) != 0 {
		t.Errorf("five rounds more: %+v", h)
	}
}

// stirred is a row of numbers that look like no order, and are the same each time.
func stirred(seed uint64) func(below int) int {
	return func(below int) int {
		seed = seed*6364136223846793005 + 1442695040888963407
		return int(seed>>33) % below
	}
}

// row is what a long row of calls has come to, with how many rounds there were since it last became gentle.
type row struct {
	h      api.Hystart
	rounds int
	began  int
}

// sample holds one more time against P10.2 and P10.4.
func (r *row) sample(t *testing.T, by int) {
	t.Helper()
	n, err := hystart.Sample(r.h, by)
	if want, wantErr := trueSample(r.h, by); n != want || err != wantErr {
		t.Fatalf("Sample(%+v, %d): %+v, %d, not %+v, %d", r.h, by, n, err, want, wantErr)
	}
	if n.Gentle && !r.h.Gentle {
		r.rounds = 0
		r.began++
	}
	if n.Done && !r.h.Done {
		t.Fatalf("Sample(%+v, %d): done by a time alone", r.h, by)
	}
	r.stays(t, n)
}

// round holds one more round against P10.3 and P10.4.
func (r *row) round(t *testing.T) {
	t.Helper()
	n, err := hystart.Round(r.h)
	if want, wantErr := trueRound(r.h); n != want || err != wantErr {
		t.Fatalf("Round(%+v): %+v, %d, not %+v, %d", r.h, n, err, want, wantErr)
	}
	if r.h.Gentle {
		r.rounds++
	}
	if n.Gentle && r.rounds >= 5 {
		t.Fatalf("Round(%+v): gentle still, behind %d rounds: %+v", r.h, r.rounds, n)
	}
	if n.Done && !r.h.Done && r.rounds != 5 {
		t.Fatalf("Round(%+v): done behind %d rounds: %+v", r.h, r.rounds, n)
	}
	r.stays(t, n)
}

func (r *row) stays(t *testing.T, n api.Hystart) {
	t.Helper()
	if !hystart.Check(n) || !mayBe(n) {
		t.Fatalf("%+v may be, and %+v may not", r.h, n)
	}
	if r.h.Done && (!n.Done || n.Gentle || hystart.Part(n, 1<<20) != 0) {
		t.Fatalf("%+v was done, and %+v is not", r.h, n)
	}
	r.h = n
}

// P10.4: long rows of rounds whose times grow and fall, of unlike lengths, and some that is refused; each begins anew once it is done a while.
func TestLongRows(t *testing.T) {
	ended, began := 0, 0
	for seed := range 40 {
		next := stirred(uint64(seed))
		r, wait, level := row{}, 0, 0
		for range 4000 {
			r.sample(t, 90000+10000*level+next(40))
			if next(10) == 0 {
				r.round(t)
				level = next(5 + seed%3)
			}
			if next(20) == 0 {
				r.sample(t, -next(9))
				r.sample(t, longest+1+next(9))
			}
			if r.h.Done {
				wait++
			}
			if wait == 100 {
				ended++
				began += r.began
				r, wait = row{}, 0
			}
		}
	}
	if ended < 40 || began < 2*ended {
		t.Errorf("only %d ended, and %d were gentle", ended, began)
	}
}

// P10.4: long rows of times of all sizes, in no order.
func TestLongRowsInNoOrder(t *testing.T) {
	for seed := range 40 {
		next := stirred(uint64(seed))
		r := row{}
		for range 3000 {
			r.sample(t, 1+next(1<<(1+next(30))))
			if next(9) == 0 {
				r.round(t)
			}
		}
	}
}

// P10.4: all short rows of long times, short times, and rounds, from what was swift and what was gentle.
func TestShortRows(t *testing.T) {
	for _, h := range []api.Hystart{swift(100000, 120000, 7), gentle(100000, 120000, 8, 120000, 0)} {
		for which := range 3 * 3 * 3 * 3 * 3 * 3 * 3 * 3 {
			r := row{h: h}
			for range 8 {
				switch which % 3 {
				case 0:
					r.sample(t, 130000)
				case 1:
					r.sample(t, 115000)
				case 2:
					r.round(t)
				}
				which /= 3
			}
		}
	}
}

// P10.4: five rounds with no time between them, and fewer if some were over already, bring what is gentle to its end, where it stays, whatever comes.
func TestGentleEnds(t *testing.T) {
	all(func(h api.Hystart) {
		if !h.Gentle || !mayBe(h) {
			return
		}
		for i := range max(5-h.Rounds, 1) {
			if h.Done || !h.Gentle || h.Rounds > 5 || hystart.Part(h, 40) != 10 {
				t.Fatalf("behind %d rounds: %+v", i, h)
			}
			h = rounded(t, h)
		}
		if !h.Done {
			t.Fatalf("not done: %+v", h)
		}
		for range 6 {
			h = rounded(t, sampled(t, h, 1, longest, 5, 5, 5, 5, 5, 5, 5))
			if h != done(1, 0, 0) {
				t.Fatalf("not done any more: %+v", h)
			}
		}
	})
}

// P10.4: five rounds with long times between them bring it to its end too; short ones, eight of them, do not.
func TestGentleEndsWithTimesBetween(t *testing.T) {
	first := gentle(100000, 120000, 8, 120000, 0)
	h := first
	for i := range 5 {
		if !h.Gentle || h.Rounds != i || h.Base != 120000 {
			t.Fatalf("behind %d rounds: %+v", i, h)
		}
		h = sampled(t, rounded(t, h), like(120000+i, 9)...)
	}
	if h != done(120003, 120004, 8) {
		t.Errorf("with long times: %+v", h)
	}
	for many := 7; many <= 8; many++ {
		h = first
		for range 4 {
			h = rounded(t, h)
		}
		h = rounded(t, sampled(t, h, like(119999, many)...))
		if h.Done != (many == 7) || h.Gentle || h.Last != 119999 {
			t.Errorf("with %d short times: %+v", many, h)
		}
	}
}

// R4: the same is told each time, behind any others, too.
func TestCallsBesideEachOther(t *testing.T) {
	h := swift(100000, 120000, 7)
	want := gentle(100000, 120000, 8, 120000, 0)
	for _, by := range []int{0, 1, 120000, longest, most} {
		for _, other := range []api.Hystart{{}, want, done(5, 5, 5), gentle(9, 9, 9, 9, 9)} {
			hystart.Sample(other, by)
			hystart.Round(other)
			if n, err := hystart.Sample(h, 120000); n != want || err != api.OK {
				t.Errorf("behind Sample(%+v, %d): %+v, %d", other, by, n, err)
			}
		}
	}
}
