package clock_test

import (
	"math"
	exact "math/big"
	"testing"

	"sawtooth/api"
	"sawtooth/clock"
)

const (
	most   = math.MaxInt64
	least  = math.MinInt64
	last   = api.MaxTime
	second = api.Second
)

// telling are numbers of both signs: around 0, around the bounds of kinds, around the last time, and around halves of the edges, and the edges.
func telling() []int {
	var l []int
	for _, n := range []int{0, 4, 7, 1000, second, 1 << 30, last / 2, last, 2 * last, 1 << 62, most - 1} {
		for _, m := range []int{n - 1, n, n + 1} {
			l = append(l, m, -m)
		}
	}
	return append(l, least)
}

func whole(n int) *exact.Int { return exact.NewInt(int64(n)) }

// P5.1: both ends are times, what lies one beyond them is none.
func TestCheck(t *testing.T) {
	for _, c := range []struct {
		t    int
		want bool
	}{
		{0, true},
		{1, true},
		{-1, false},
		{77, true},
		{-77, false},
		{second, true},
		{-second, false},
		{last - 1, true},
		{last, true},
		{last + 1, false},
		{-last, false},
		{2 * last, false},
		{most, false},
		{least, false},
	} {
		if is := clock.Check(c.t); is != c.want {
			t.Errorf("Check(%d): %v, not %v", c.t, is, c.want)
		}
	}
}

// P5.1: steps to now, to earlier and to later times, and to what is no time; now is told beside an error.
func TestStep(t *testing.T) {
	for _, c := range []struct {
		now, at, want int
		err           api.Errno
	}{
		{5, 5, 5, api.OK},
		{5, 6, 6, api.OK},
		{5, 4, 5, api.ErrBack},
		{5, 3, 5, api.ErrBack},
		{5, 0, 5, api.ErrBack},
		{5, -1, 5, api.ErrTime},
		{5, last + 1, 5, api.ErrTime},
		{0, 0, 0, api.OK},
		{0, 1, 1, api.OK},
		{0, -1, 0, api.ErrTime},
		{0, last - 1, last - 1, api.OK},
		{0, last, last, api.OK},
		{0, last + 1, 0, api.ErrTime},
		{1, 0, 1, api.ErrBack},
		{last - 1, last, last, api.OK},
		{last, last, last, api.OK},
		{last, last - 1, last, api.ErrBack},
		{last, 0, last, api.ErrBack},
		{last, last + 1, last, api.ErrTime},
		{last, -1, last, api.ErrTime},
		{7, most, 7, api.ErrTime},
		{7, least, 7, api.ErrTime},
	} {
		if n, err := clock.Step(c.now, c.at); n != c.want || err != c.err {
			t.Errorf("Step(%d, %d): %d, %v, not %d, %v", c.now, c.at, n, err, c.want, c.err)
		}
	}
}

// P5.1: a now that is no time is told beside an error as it is; ahead of all times it leads to any of them, behind them to none.
func TestStepFromNoTime(t *testing.T) {
	for _, c := range []struct {
		now, at, want int
		err           api.Errno
	}{
		{-1, 0, 0, api.OK},
		{-1, 5, 5, api.OK},
		{-1, last, last, api.OK},
		{-1, -1, -1, api.ErrTime},
		{-5, -3, -5, api.ErrTime},
		{-5, -7, -5, api.ErrTime},
		{least, 0, 0, api.OK},
		{least, last, last, api.OK},
		{least, least, least, api.ErrTime},
		{least, most, least, api.ErrTime},
		{last + 1, last, last + 1, api.ErrBack},
		{last + 1, 0, last + 1, api.ErrBack},
		{last + 1, last + 1, last + 1, api.ErrTime},
		{last + 1, last + 2, last + 1, api.ErrTime},
		{last + 2, last + 1, last + 2, api.ErrTime},
		{last + 1, -1, last + 1, api.ErrTime},
		{most, last, most, api.ErrBack},
		{most, most, most, api.ErrTime},
		{most, least, most, api.ErrTime},
	} {
		if n, err := clock.Step(c.now, c.at); n != c.want || err != c.err {
			t.Errorf("Step(%d, %d): %d, %v, not %d, %v", c.now, c.at, n, err, c.want, c.err)
		}
	}
}

// P5.1: sums within a time, at both its ends and one beyond, and where the sum has no place in 64 bits.
func TestAfter(t *testing.T) {
	for _, c := range []struct{ now, by, want int }{
		{0, 0, 0},
		{5, 3, 8},
		{5, -3, 2},
		{-3, 5, 2},
		{5, -5, 0},
		{5, -6, 0},
		{-6, 5, 0},
		{-5, 6, 1},
		{0, -1, 0},
		{-1, 0, 0},
		{-1, -1, 0},
		{0, last, last},
		{last, 0, last},
		{last, -1, last - 1},
		{last, 1, last},
		{last - 1, 1, last},
		{last - 2, 1, last - 1},
		{1, last - 1, last},
		{1, last, last},
		{-1, last, last - 1},
		{-1, last + 1, last},
		{-1, last + 2, last},
		{last + 1, -1, last},
		{last + 1, -2, last - 1},
		{last + 2, -1, last},
		{last, -last, 0},
		{last, -last + 1, 1},
		{last, -last - 1, 0},
		{last, last, last},
		{-last, -last, 0},
		{2 * last, -last - 3, last - 3},
		{most, 0, last},
		{0, most, last},
		{most, 1, last},
		{1, most, last},
		{most, most, last},
		{most, -1, last},
		{most, -most, 0},
		{-most, most, 0},
		{most, -most + 7, 7},
		{-most + 7, most, 7},
		{most, -most + last, last},
		{most, -most + last - 1, last - 1},
		{most, -most + last + 1, last},
		{-most + last + 1, most, last},
		{most, least, 0},
		{least, most, 0},
		{least, 0, 0},
		{0, least, 0},
		{least, -1, 0},
		{-1, least, 0},
		{least, 1, 0},
		{last, least, 0},
		{least, last, 0},
		{least, least, 0},
		{least, -most, 0},
	} {
		if n := clock.After(c.now, c.by); n != c.want {
			t.Errorf("After(%d, %d): %d, not %d", c.now, c.by, n, c.want)
		}
	}
}

// within is n, 0 at least, and MaxTime at most.
func within(n *exact.Int) int {
	if n.Sign() < 0 {
		return 0
	}
	if n.Cmp(whole(last)) > 0 {
		return last
	}
	return int(n.Int64())
}

// P5.1: all sums of numbers that tell are as the true one.
func TestAfterAsTheTrueNumber(t *testing.T) {
	for _, now := range telling() {
		for _, by := range telling() {
			want := within(new(exact.Int).Add(whole(now), whole(by)))
			if n := clock.After(now, by); n != want {
				t.Errorf("After(%d, %d): %d, not %d", now, by, n, want)
			}
		}
	}
}

// P5.2: numbers of both signs on a multiple, and beside it; grains of 1, and of the greatest number.
func TestGrain(t *testing.T) {
	for _, c := range []struct{ t, g, want int }{
		{1000, 1000, 1000},
		{1001, 1000, 2000},
		{999, 1000, 1000},
		{1999, 1000, 2000},
		{2000, 1000, 2000},
		{1, 1000, 1000},
		{0, 1000, 0},
		{-1, 1000, 0},
		{-999, 1000, 0},
		{-1000, 1000, -1000},
		{-1001, 1000, -1000},
		{-1999, 1000, -1000},
		{-2000, 1000, -2000},
		{7, 2, 8},
		{-7, 2, -6},
		{5, 7, 7},
		{-5, 7, 0},
		{8, 7, 14},
		{-8, 7, -7},
		{0, 1, 0},
		{7, 1, 7},
		{-7, 1, -7},
		{last + 1, second, 1099512000000},
		{most, 1, most},
		{least, 1, least},
		{0, most, 0},
		{1, most, most},
		{most - 1, most, most},
		{most, most, most},
		{-1, most, 0},
		{-most + 1, most, 0},
		{-most, most, -most},
		{least, most, -most},
		{least, 2, least},
		{least, 3, least + 2},
		{least, 1000, least + 808},
	} {
		if n := clock.Grain(c.t, c.g); n != c.want {
			t.Errorf("Grain(%d, %d): %d, not %d", c.t, c.g, n, c.want)
		}
	}
}

// P5.2: a grain of 0, or below, is none: the number stays.
func TestGrainBelowOne(t *testing.T) {
	for _, g := range []int{0, -1, -2, -1000, least + 1, least} {
		for _, n := range telling() {
			if got := clock.Grain(n, g); got != n {
				t.Errorf("Grain(%d, %d): %d", n, g, got)
			}
		}
	}
}

// P5.2: a multiple at the upper edge of 64 bits is told; of one above it the number stays.
func TestGrainAtTheEdge(t *testing.T) {
	for _, c := range []struct{ t, g, want int }{
		{most - 1, 7, most}, // 2^63 - 1 is a multiple of 7
		{most - 6, 7, most},
		{most, 7, most},
		{most - 1, 2, most - 1},
		{most, 2, most},
		{most, 3, most},
		{most - 1, 3, most - 1},
		{most - 2, 3, most - 1},
		{most, 1000, most},
		{most - 806, 1000, most - 806},
		{most - 807, 1000, most - 807},
		{most - 808, 1000, most - 807},
		{most, most - 1, most},
		{most - 1, most - 1, most - 1},
		{most - 2, most - 1, most - 1},
		{1 << 62, 1 << 62, 1 << 62},
		{1<<62 + 1, 1 << 62, 1<<62 + 1},
		{1<<62 - 1, 1 << 62, 1 << 62},
		{most, 1 << 62, most},
	} {
		if n := clock.Grain(c.t, c.g); n != c.want {
			t.Errorf("Grain(%d, %d): %d, not %d", c.t, c.g, n, c.want)
		}
	}
}

// onGrain is the least multiple of g that is not below t, found as g times t divided by g from above; t, if it is none of 64 bits.
func onGrain(t, g int) int {
	times := new(exact.Int).Div(new(exact.Int).Neg(whole(t)), whole(g))
	n := times.Mul(times.Neg(times), whole(g))
	if !n.IsInt64() {
		return t
	}
	return int(n.Int64())
}

// P5.2: all numbers that tell, on all grains that tell, are as the true multiple.
func TestGrainAsTheTrueNumber(t *testing.T) {
	for _, n := range telling() {
		for _, g := range telling() {
			if g < 1 {
				continue
			}
			if got, want := clock.Grain(n, g), onGrain(n, g); got != want {
				t.Errorf("Grain(%d, %d): %d, not %d", n, g, got, want)
			}
		}
	}
}

// P5.2: one below, at, and one above each bound; what is no time is of kind 0.
func TestKind(t *testing.T) {
	for _, c := range []struct{ t, want int }{
		{least, 0},
		{-second, 0},
		{-1, 0},
		{0, 1},
		{1, 1},
		{999, 1},
		{1000, 2},
		{1001, 2},
		{second - 1, 2},
		{second, 3},
		{second + 1, 3},
		{last - 1, 3},
		{last, 3},
		{last + 1, 0},
		{most, 0},
	} {
		if n := clock.Kind(c.t); n != c.want {
			t.Errorf("Kind(%d): %d, not %d", c.t, n, c.want)
		}
	}
}

// P5.3: a step that is taken leads to a time that is not earlier, and one that is refused leads nowhere.
func TestStepIsNotEarlier(t *testing.T) {
	for _, now := range telling() {
		for _, at := range telling() {
			n, err := clock.Step(now, at)
			if n < now {
				t.Errorf("Step(%d, %d): %d, which is earlier", now, at, n)
			}
			if err == api.OK && (n != at || !clock.Check(n)) {
				t.Errorf("Step(%d, %d): %d, %v", now, at, n, err)
			}
			if err != api.OK && n != now {
				t.Errorf("Step(%d, %d): %d, %v", now, at, n, err)
			}
		}
	}
}

// P5.3: steps one behind the other, each from where the last one led: those that would go back, or to no time, leave all as it was.
func TestStepsDoNotGoBack(t *testing.T) {
	now := 0
	for i, c := range []struct {
		at, want int
		err      api.Errno
	}{
		{3, 3, api.OK},
		{3, 3, api.OK},
		{2, 3, api.ErrBack},
		{-1, 3, api.ErrTime},
		{4, 4, api.OK},
		{3, 4, api.ErrBack},
		{last + 1, 4, api.ErrTime},
		{second, second, api.OK},
		{last - 1, last - 1, api.OK},
		{second, last - 1, api.ErrBack},
		{last, last, api.OK},
		{last, last, api.OK},
		{last - 1, last, api.ErrBack},
		{0, last, api.ErrBack},
		{most, last, api.ErrTime},
	} {
		n, err := clock.Step(now, c.at)
		if n != c.want || err != c.err {
			t.Fatalf("step %d, from %d to %d: %d, %v, not %d, %v", i, now, c.at, n, err, c.want, c.err)
		}
		now = n
	}
}

// P5.3: what is on a grain stays there; and what is added is less than one grain.
func TestGrainIsAddedOnce(t *testing.T) {
	for _, n := range telling() {
		for _, g := range telling() {
			once := clock.Grain(n, g)
			if twice := clock.Grain(once, g); twice != once {
				t.Errorf("Grain of %d and %d: %d, and again: %d", n, g, once, twice)
			}
			more := new(exact.Int).Sub(whole(once), whole(n))
			if more.Sign() < 0 || more.Sign() > 0 && more.Cmp(whole(g)) >= 0 {
				t.Errorf("Grain(%d, %d): %d", n, g, once)
			}
		}
	}
}
