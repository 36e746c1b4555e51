package grow_test

import (
	"math"
	exact "math/big"
	"testing"

	"sawtooth/api"
	"sawtooth/grow"
	"sawtooth/hystart"
)

const (
	most     = math.MaxInt64
	fewest   = math.MinInt64
	one      = api.One
	two      = 2 * api.One
	eight    = 8 * api.One
	greatest = api.MaxSegs * api.One
)

func whole(n int) *exact.Int { return exact.NewInt(int64(n)) }

func plus(a, b *exact.Int) *exact.Int { return new(exact.Int).Add(a, b) }

func minus(a, b *exact.Int) *exact.Int { return new(exact.Int).Sub(a, b) }

func times(a, b *exact.Int) *exact.Int { return new(exact.Int).Mul(a, b) }

func lesser(a, b *exact.Int) *exact.Int {
	if a.Cmp(b) <= 0 {
		return a
	}
	return b
}

func greater(a, b *exact.Int) *exact.Int {
	if a.Cmp(b) >= 0 {
		return a
	}
	return b
}

// given is a window as the chapter's words take it; toldOf is what is told, likewise.
func given(n int) *exact.Int { return lesser(greater(whole(n), whole(1<<17)), whole(1<<36)) }

func toldOf(n int) *exact.Int { return lesser(greater(whole(n), whole(0)), whole(1<<36)) }

func asInt(n *exact.Int) int { return int(n.Int64()) }

// partOf is chapter 10's Part by its words, of an n that is not below 0.
func partOf(h api.Hystart, n *exact.Int) *exact.Int {
	switch {
	case h.Done:
		return whole(0)
	case h.Gentle:
		return new(exact.Int).Div(n, whole(4))
	}
	return n
}

// trueSlow is P14.1 by its words, in true numbers.
func trueSlow(window, told int, h api.Hystart) int {
	more := partOf(h, lesser(toldOf(told), whole(8*65536)))
	return asInt(lesser(plus(given(window), more), whole(1<<36)))
}

// calmed is P14.2 by its words, in true numbers, of which Div is from below.
func calmed(window, target, told int) *exact.Int {
	from, to := given(window), whole(target)
	if to.Cmp(from) <= 0 {
		return from
	}
	more := new(exact.Int).Div(times(toldOf(told), minus(to, from)), from)
	return lesser(lesser(plus(from, more), to), whole(1<<36))
}

func trueCalm(window, target, told int) int { return asInt(calmed(window, target, told)) }

// trueBoth and trueLimit are P14.3 by its words.
func trueBoth(window, target, est, told int) int {
	return asInt(lesser(greater(calmed(window, target, told), whole(est)), whole(1<<36)))
}

func trueLimit(window, high int) int { return asInt(lesser(given(window), given(high))) }

// stirred is a row that looks like chance, and is the same each time.
func stirred(seed uint64) func(below int) int {
	return func(below int) int {
		seed = seed*6364136223846793005 + 1442695040888963407
		return int((seed >> 20) % uint64(below))
	}
}

// around are some numbers, and both neighbours of each.
func around(l ...int) []int {
	var all []int
	for _, n := range l {
		all = append(all, n-1, n, n+1)
	}
	return all
}

// edges are around 0, one, two and eight segments, and the greatest window, on both sides of 0, and up to both edges of 64 bits.
func edges() []int {
	l := around(0, one, two, eight, 10*one, greatest, 2*greatest, 1<<62, -two, -greatest, -1<<62)
	return append(l, 3, 4, 7, -7, most-1, most, fewest, fewest+1)
}

// windows are those that lie in their bounds: at both ends, within, even and uneven.
func windows() []int {
	return []int{two, two + 1, two + 2, 3*one - 1, 3 * one, 3*one + 7, eight, 10*one - 1, 10 * one, 10*one + 1, 1000*one + 1, greatest / 17 * 9, greatest/2 - 1, greatest / 2, greatest - 10*one, greatest - eight - 1, greatest - eight, greatest - eight + 1, greatest - two, greatest - 2, greatest - 1, greatest}
}

var (
	quick  = api.Hystart{}
	gentle = api.Hystart{Last: 100000, Least: 120000, Many: 8, Gentle: true, Base: 120000}
	done   = api.Hystart{Last: 100000, Done: true}
)

// phases are some of each phase that may be, and some that may not be.
func phases() []api.Hystart {
	return []api.Hystart{
		quick,
		gentle,
		done,
		{Last: 100000, Least: 90000, Many: 5},
		{Gentle: true, Base: 1, Rounds: 5},
		{Last: 9, Least: 7, Many: 8, Done: true},
		{Gentle: true},
		{Gentle: true, Done: true},
		{Gentle: true, Done: true, Base: 7, Rounds: 2},
		{Gentle: true, Base: -1, Rounds: 6},
		{Last: -1},
		{Last: most, Least: most, Many: most},
		{Many: 3},
		{Many: fewest, Done: true},
		{Base: 5, Rounds: fewest},
	}
}

// P14.1: each of the three at each edge that the chapter names, the others within.
func TestSlow(t *testing.T) {
	for _, c := range []struct {
		window, told int
		h            api.Hystart
		want         int
	}{
		{10 * one, 5 * one, quick, 15 * one},
		{10 * one, 5 * one, gentle, 11*one + one/4},
		{10 * one, 5 * one, done, 10 * one},

		{fewest, one, quick, 3 * one},
		{-two, one, quick, 3 * one},
		{-1, one, quick, 3 * one},
		{0, one, quick, 3 * one},
		{1, one, quick, 3 * one},
		{one, one, quick, 3 * one},
		{two - 1, one, quick, 3 * one},
		{two, one, quick, 3 * one},
		{two + 1, one, quick, 3*one + 1},
		{-1, one, gentle, two + one/4},
		{0, one, gentle, two + one/4},
		{two - 1, one, gentle, two + one/4},
		{two, one, gentle, two + one/4},
		{two + 1, one, gentle, two + one/4 + 1},
		{fewest, one, done, two},
		{-1, one, done, two},
		{0, one, done, two},
		{two - 1, one, done, two},
		{two, one, done, two},
		{two + 1, one, done, two + 1},

		{greatest - 1, 0, quick, greatest - 1},
		{greatest - 1, 1, quick, greatest},
		{greatest - 1, 2, quick, greatest},
		{greatest - 1, one, quick, greatest},
		{greatest, 0, quick, greatest},
		{greatest, one, quick, greatest},
		{greatest + 1, 0, quick, greatest},
		{greatest + 1, one, quick, greatest},
		{2 * greatest, 1, quick, greatest},
		{most, 0, quick, greatest},
		{most, most, quick, greatest},
		{greatest - 1, 3, gentle, greatest - 1},
		{greatest - 1, 4, gentle, greatest},
		{greatest - 1, 8, gentle, greatest},
		{greatest, 8, gentle, greatest},
		{greatest + 1, 8, gentle, greatest},
		{most, 8, gentle, greatest},
		{greatest - 1, one, done, greatest - 1},
		{greatest, one, done, greatest},
		{greatest + 1, one, done, greatest},
		{most, one, done, greatest},
		{greatest - eight - 1, eight, quick, greatest - 1},
		{greatest - eight, eight, quick, greatest},
		{greatest - eight + 1, eight, quick, greatest},
		{greatest - two - 1, eight, gentle, greatest - 1},
		{greatest - two, eight, gentle, greatest},
		{greatest - two + 1, eight, gentle, greatest},

		{10 * one, fewest, quick, 10 * one},
		{10 * one, -10 * one, quick, 10 * one},
		{10 * one, -1, quick, 10 * one},
		{10 * one, 0, quick, 10 * one},
		{10 * one, 1, quick, 10*one + 1},
		{10 * one, 3, quick, 10*one + 3},
		{10 * one, 4, quick, 10*one + 4},
		{10 * one, eight - 1, quick, 18*one - 1},
		{10 * one, eight, quick, 18 * one},
		{10 * one, eight + 1, quick, 18 * one},
		{10 * one, 9 * one, quick, 18 * one},
		{10 * one, greatest - 1, quick, 18 * one},
		{10 * one, greatest, quick, 18 * one},
		{10 * one, greatest + 1, quick, 18 * one},
		{10 * one, most, quick, 18 * one},
		{10 * one, fewest, gentle, 10 * one},
		{10 * one, -5, gentle, 10 * one},
		{10 * one, -4, gentle, 10 * one},
		{10 * one, -1, gentle, 10 * one},
		{10 * one, 0, gentle, 10 * one},
		{10 * one, 1, gentle, 10 * one},
		{10 * one, 3, gentle, 10 * one},
		{10 * one, 4, gentle, 10*one + 1},
		{10 * one, 7, gentle, 10*one + 1},
		{10 * one, 8, gentle, 10*one + 2},
		{10 * one, eight - 1, gentle, 12*one - 1},
		{10 * one, eight, gentle, 12 * one},
		{10 * one, eight + 1, gentle, 12 * one},
		{10 * one, eight + 4, gentle, 12 * one},
		{10 * one, greatest, gentle, 12 * one},
		{10 * one, greatest + 1, gentle, 12 * one},
		{10 * one, most, gentle, 12 * one},
		{10 * one, fewest, done, 10 * one},
		{10 * one, -1, done, 10 * one},
		{10 * one, 0, done, 10 * one},
		{10 * one, 1, done, 10 * one},
		{10 * one, 4, done, 10 * one},
		{10 * one, eight, done, 10 * one},
		{10 * one, most, done, 10 * one},
		{two, eight, quick, 10 * one},
		{two, 9 * one, quick, 10 * one},
		{0, 9 * one, quick, 10 * one},

		{10 * one, 5 * one, api.Hystart{Last: -1}, 15 * one},
		{10 * one, 5 * one, api.Hystart{Many: 3}, 15 * one},
		{10 * one, 5 * one, api.Hystart{Gentle: true}, 11*one + one/4},
		{10 * one, 5 * one, api.Hystart{Gentle: true, Done: true}, 10 * one},
		{10 * one, 5 * one, api.Hystart{Done: true, Base: 9}, 10 * one},
	} {
		if trueSlow(c.window, c.told, c.h) != c.want {
			t.Errorf("%d is not what %d, %d and %v tell", c.want, c.window, c.told, c.h)
		}
		holdSlow(t, c.window, c.told, c.h)
	}
}

// holdSlow holds Slow against the chapter's words, and its part against hystart.Part of the same h.
func holdSlow(t *testing.T, window, told int, h api.Hystart) {
	t.Helper()
	n := grow.Slow(window, told, h)
	if want := trueSlow(window, told, h); n != want {
		t.Fatalf("Slow(%d, %d, %v): %d, not %d", window, told, h, n, want)
	}
	part := hystart.Part(h, asInt(lesser(toldOf(told), whole(eight))))
	if want := asInt(lesser(plus(given(window), whole(part)), whole(greatest))); n != want {
		t.Fatalf("Slow(%d, %d, %v): %d, not %d by Part", window, told, h, n, want)
	}
}

// P14.1: all edges of both beside each other, in each phase, in true numbers.
func TestSlowAsTheTrueNumber(t *testing.T) {
	l := append(edges(), windows()...)
	for _, h := range phases() {
		for _, window := range l {
			for _, told := range l {
				holdSlow(t, window, told, h)
			}
		}
	}
}

// P14.1: neighbouring windows and far ones, what is told of a byte up to many segments.
func TestSlowWithinAsTheTrueNumber(t *testing.T) {
	next := stirred(141)
	for range 6000 {
		for _, h := range phases() {
			holdSlow(t, next(greatest+eight), next(10*one), h)
			holdSlow(t, next(20*one), next(100), h)
			holdSlow(t, greatest-next(10*one), eight-50+next(100), h)
		}
	}
}

// P14.2: each of the three at each edge that the chapter names, the others within.
func TestCalm(t *testing.T) {
	for _, c := range []struct{ window, target, told, want int }{
		{10 * one, 12 * one, 5 * one, 11 * one},

		{10 * one, 10*one - 1, 5 * one, 10 * one},
		{10 * one, 10 * one, 5 * one, 10 * one},
		{10 * one, 10*one + 1, 5 * one, 10 * one},
		{10 * one, 10*one + 1, 10*one - 1, 10 * one},
		{10 * one, 10*one + 1, 10 * one, 10*one + 1},
		{10 * one, 10*one + 1, 20 * one, 10*one + 1},
		{10 * one, 10*one + 2, 5*one - 1, 10 * one},
		{10 * one, 10*one + 2, 5 * one, 10*one + 1},
		{10 * one, 5 * one, 10 * one, 10 * one},
		{10 * one, 1, 10 * one, 10 * one},
		{10 * one, 0, 10 * one, 10 * one},
		{10 * one, -1, 10 * one, 10 * one},
		{10 * one, -greatest, 10 * one, 10 * one},
		{10 * one, fewest, 10 * one, 10 * one},
		{10 * one, fewest, fewest, 10 * one},
		{10 * one, 10 * one, most, 10 * one},

		{0, two - 1, 10 * one, two},
		{0, two, 10 * one, two},
		{0, two + 1, 10 * one, two + 1},
		{0, one, one, two},
		{0, 1, one, two},
		{0, 4 * one, one, 3 * one},
		{-1, one, one, two},
		{-1, 0, one, two},
		{-5, -3, one, two},
		{fewest, fewest + 1, one, two},
		{fewest, one, most, two},
		{fewest, 4 * one, one, 3 * one},
		{one, two, one, two},
		{one, 4 * one, one, 3 * one},
		{two - 1, two, two, two},
		{two - 2, two - 1, two, two},
		{two - 1, two + 1, two, two + 1},
		{two - 1, 4 * one, one, 3 * one},
		{two, 4 * one, one, 3 * one},
		{two + 1, 4 * one, one, 3 * one},
		{two + 1, 4 * one, two + 1, 4 * one},

		{greatest - 1, greatest - 1, greatest, greatest - 1},
		{greatest - 1, greatest, greatest - 2, greatest - 1},
		{greatest - 1, greatest, greatest - 1, greatest},
		{greatest - 1, greatest, greatest, greatest},
		{greatest - 1, greatest + 1, greatest, greatest},
		{greatest - 1, greatest + 1, greatest/2 - 1, greatest - 1},
		{greatest - 1, greatest + 1, greatest / 2, greatest},
		{greatest - 1, most, 0, greatest - 1},
		{greatest - 1, most, 1, greatest},
		{greatest, greatest - 1, greatest, greatest},
		{greatest, greatest, greatest, greatest},
		{greatest, greatest + 1, greatest, greatest},
		{greatest, most, most, greatest},
		{greatest, most, 0, greatest},
		{greatest + 1, greatest, greatest, greatest},
		{greatest + 1, greatest + 1, greatest, greatest},
		{greatest + 1, greatest + 2, greatest, greatest},
		{greatest + 5, greatest + 3, greatest, greatest},
		{greatest + 5, 0, 0, greatest},
		{most, 0, most, greatest},
		{most, most, most, greatest},
		{most, fewest, fewest, greatest},
		{10 * one, greatest - 1, 10 * one, greatest - 1},
		{10 * one, greatest, 10 * one, greatest},
		{10 * one, greatest + 1, 10 * one, greatest},
		{10 * one, greatest - 1, 5 * one, greatest/2 + 5*one - 1},
		{10 * one, greatest, 5 * one, greatest/2 + 5*one},
		{10 * one, greatest + 1, 5 * one, greatest/2 + 5*one},
		{10 * one, greatest + 2, 5 * one, greatest/2 + 5*one + 1},
		{10 * one, 2 * greatest, 5 * one, greatest},
		{10 * one, 2 * greatest, one, greatest/5 + 9*one},
		{10 * one, 2*greatest + 10, one, greatest/5 + 9*one + 1},
		{10 * one, most, 0, 10 * one},
		{10 * one, most, 1, greatest},
		{10 * one, most, most, greatest},
		{two, most, greatest, greatest},
		{two, most, greatest + 1, greatest},
		{two, most - 1, most, greatest},
		{fewest, most, most, greatest},
		{fewest, most, fewest, two},

		{10 * one, 12 * one, fewest, 10 * one},
		{10 * one, 12 * one, -10 * one, 10 * one},
		{10 * one, 12 * one, -1, 10 * one},
		{10 * one, 12 * one, 0, 10 * one},
		{10 * one, 12 * one, 1, 10 * one},
		{10 * one, 12 * one, 4, 10 * one},
		{10 * one, 12 * one, 5, 10*one + 1},
		{10 * one, 12 * one, 6, 10*one + 1},
		{10 * one, 12 * one, 9, 10*one + 1},
		{10 * one, 12 * one, 10, 10*one + 2},
		{10 * one, 12 * one, 11, 10*one + 2},
		{10 * one, 12 * one, 5*one - 1, 11*one - 1},
		{10 * one, 12 * one, 5*one + 1, 11 * one},
		{10 * one, 12 * one, 10*one - 1, 12*one - 1},
		{10 * one, 12 * one, 10 * one, 12 * one},
		{10 * one, 12 * one, 10*one + 1, 12 * one},
		{10 * one, 12 * one, 15 * one, 12 * one},
		{10 * one, 12 * one, greatest - 1, 12 * one},
		{10 * one, 12 * one, greatest, 12 * one},
		{10 * one, 12 * one, greatest + 1, 12 * one},
		{10 * one, 12 * one, most, 12 * one},
		{10 * one, 15 * one, 1, 10 * one},
		{10 * one, 15 * one, 2, 10*one + 1},
		{10 * one, 15 * one, 3, 10*one + 1},
		{10 * one, 20 * one, 1, 10*one + 1},
		{10 * one, 30 * one, 1, 10*one + 2},
		{3*one + 7, 5*one + 1, 3*one + 6, 5 * one},
		{3*one + 7, 5*one + 1, 3*one + 7, 5*one + 1},
	} {
		if trueCalm(c.window, c.target, c.told) != c.want {
			t.Errorf("%d is not what %d, %d and %d tell", c.want, c.window, c.target, c.told)
		}
		holdCalm(t, c.window, c.target, c.told)
	}
}

func holdCalm(t *testing.T, window, target, told int) {
	t.Helper()
	if n, want := grow.Calm(window, target, told), trueCalm(window, target, told); n != want {
		t.Fatalf("Calm(%d, %d, %d): %d, not %d", window, target, told, n, want)
	}
}

// near are numbers around n, on both sides, where these do not go round.
func near(n int) []int {
	l := []int{n}
	for by := 1; by <= 2; by++ {
		if n >= fewest+by {
			l = append(l, n-by)
		}
		if n <= most-by {
			l = append(l, n+by)
		}
	}
	return l
}

// tolds are what is told around no window, half a window, a whole one, and two.
func tolds(window int) []int {
	w := min(max(window, two), greatest)
	return append(edges(), around(w/2, w, 2*w, w/3)...)
}

// P14.2: all edges beside each other, targets around the window as it was given and as it is taken, in true numbers.
func TestCalmAsTheTrueNumber(t *testing.T) {
	l := append(edges(), windows()...)
	for _, window := range l {
		for _, target := range append(append(l, near(window)...), near(asInt(given(window)))...) {
			for _, told := range tolds(window) {
				holdCalm(t, window, target, told)
			}
		}
	}
}

// P14.2: a target between the window as it was given and as it is taken is not above it: the window stays where it is taken.
func TestCalmBetweenGivenAndTaken(t *testing.T) {
	for window := -3; window < 3; window++ {
		for _, target := range []int{window, window + 1, 5, one, two - 1, two} {
			if n := grow.Calm(window, target, most); n != two {
				t.Fatalf("Calm(%d, %d): %d", window, target, n)
			}
		}
	}
	for _, target := range around(greatest + 5) {
		for _, window := range []int{greatest + 7, 2 * greatest, most} {
			if n := grow.Calm(window, target, one); n != greatest {
				t.Fatalf("Calm(%d, %d): %d", window, target, n)
			}
		}
	}
}

// P14.2: windows within, short and long, targets a part above and far above, what is told of a byte up to many windows, in true numbers.
func TestCalmWithinAsTheTrueNumber(t *testing.T) {
	next := stirred(142)
	for range 12000 {
		window := two + next(greatest-two+1)
		short := next(40 * one)
		for _, w := range []int{window, short} {
			for _, up := range []int{next(3), next(1500), next(w/2 + 1), next(greatest), next(1 << 62)} {
				holdCalm(t, w, w+up, next(w+1))
				holdCalm(t, w, w+up, next(1500*one))
				holdCalm(t, w, w+up, next(1500))
				holdCalm(t, w, w-up, next(w+1))
			}
		}
	}
}

// growsTo is the least that is to be told for n parts more: the least one that, times how far the target is above the window, is at least n times the window.
func growsTo(n, window, up int) int {
	to := times(whole(n), whole(window))
	low, high := 0, greatest
	for low < high {
		told := low + (high-low)/2
		if times(whole(told), whole(up)).Cmp(to) < 0 {
			low = told + 1
		} else {
			high = told
		}
	}
	return low
}

// P14.2: just below, at, and just above what is to be told for so many parts more: those products divide evenly, or leave most, or little.
func TestCalmWhereItGrows(t *testing.T) {
	next := stirred(143)
	l := []int{two, two + 1, 3 * one, 3*one + 7, 10 * one, 17 * one, greatest / 17, greatest/2 - 1, greatest - 3*one}
	for range 200 {
		l = append(l, two+next(50*one), two+next(greatest-4*one))
	}
	for _, window := range l {
		for _, up := range []int{1, 2, 3, 1000, one, 2 * one, 1 + next(two), 1 + next(two)} {
			for _, n := range []int{1, 2, 3, (up + 1) / 2, up - 1, up} {
				if n < 1 || n > up {
					continue
				}
				told := growsTo(n, window, up)
				for _, by := range []int{-2, -1, 0, 1, 2} {
					holdCalm(t, window, window+up, told+by)
				}
				before, at := grow.Calm(window, window+up, told-1)-window, grow.Calm(window, window+up, told)-window
				if before >= n || at < n {
					t.Fatalf("of %d, up to %d more: %d tells %d, and one more %d, for %d", window, up, told-1, before, at, n)
				}
			}
		}
	}
}

// P14.2: a whole window that is told of at once leads to the target, or to the greatest window; no more that is told leads further.
func TestCalmOfAWholeWindow(t *testing.T) {
	for _, window := range windows() {
		for _, up := range []int{1, 2, 7, one, window / 2, window, greatest, 1 << 62} {
			for _, told := range []int{window, window + 1, 2 * window, greatest, greatest + 1, most} {
				if n := grow.Calm(window, window+up, told); n != min(window+up, greatest) {
					t.Fatalf("Calm(%d, %d, %d): %d", window, window+up, told, n)
				}
			}
			if n := grow.Calm(window, window+up, window-1); n == window+up {
				t.Fatalf("Calm(%d, %d, %d): %d already", window, window+up, window-1, n)
			}
		}
	}
}

// P14.3: est below, at and above Calm's, and at each edge that the chapter names.
func TestBoth(t *testing.T) {
	for _, c := range []struct{ window, target, est, told, want int }{
		{10 * one, 12 * one, 10 * one, 5 * one, 11 * one},
		{10 * one, 12 * one, 11*one - 1, 5 * one, 11 * one},
		{10 * one, 12 * one, 11 * one, 5 * one, 11 * one},
		{10 * one, 12 * one, 11*one + 1, 5 * one, 11*one + 1},
		{10 * one, 12 * one, 12 * one, 5 * one, 12 * one},
		{10 * one, 12 * one, 13 * one, 5 * one, 13 * one},
		{10 * one, 12 * one, 100 * one, 5 * one, 100 * one},
		{10 * one, 12 * one, 100 * one, 0, 100 * one},
		{10 * one, 12 * one, 100 * one, -1, 100 * one},
		{10 * one, 12 * one, two, 5 * one, 11 * one},
		{10 * one, 12 * one, one, 5 * one, 11 * one},
		{10 * one, 12 * one, 1, 5 * one, 11 * one},
		{10 * one, 12 * one, 0, 5 * one, 11 * one},
		{10 * one, 12 * one, -1, 5 * one, 11 * one},
		{10 * one, 12 * one, -greatest, 5 * one, 11 * one},
		{10 * one, 12 * one, fewest, 5 * one, 11 * one},
		{10 * one, 12 * one, greatest - 1, 5 * one, greatest - 1},
		{10 * one, 12 * one, greatest, 5 * one, greatest},
		{10 * one, 12 * one, greatest + 1, 5 * one, greatest},
		{10 * one, 12 * one, 2 * greatest, 5 * one, greatest},
		{10 * one, 12 * one, most, 5 * one, greatest},

		{10 * one, 9 * one, 10*one - 1, 5 * one, 10 * one},
		{10 * one, 9 * one, 10 * one, 5 * one, 10 * one},
		{10 * one, 9 * one, 10*one + 1, 5 * one, 10*one + 1},
		{10 * one, -1, 0, 5 * one, 10 * one},
		{10 * one, -1, 11 * one, 5 * one, 11 * one},
		{10 * one, fewest, fewest, fewest, 10 * one},
		{10 * one, fewest, most, fewest, greatest},

		{0, 0, 0, 0, two},
		{0, one, one, one, two},
		{0, 0, two - 1, 0, two},
		{0, 0, two, 0, two},
		{0, 0, two + 1, 0, two + 1},
		{-1, 0, two - 1, one, two},
		{0, 4 * one, two, one, 3 * one},
		{0, 4 * one, 3*one + 1, one, 3*one + 1},
		{fewest, fewest, fewest, fewest, two},
		{fewest, fewest, most, fewest, greatest},
		{fewest, most, fewest, fewest, two},
		{fewest, most, fewest, most, greatest},
		{most, fewest, fewest, fewest, greatest},
		{most, most, most, most, greatest},
		{greatest, 0, greatest - 1, 0, greatest},
		{greatest, 0, greatest + 1, 0, greatest},
		{greatest - 1, 0, greatest - 2, 0, greatest - 1},
		{greatest - 1, 0, greatest, 0, greatest},
		{greatest + 1, 0, 0, 0, greatest},
		{10 * one, 2 * greatest, 0, one, greatest/5 + 9*one},
		{10 * one, 2 * greatest, greatest/5 + 9*one - 1, one, greatest/5 + 9*one},
		{10 * one, 2 * greatest, greatest/5 + 9*one + 1, one, greatest/5 + 9*one + 1},
	} {
		if trueBoth(c.window, c.target, c.est, c.told) != c.want {
			t.Errorf("%d is not what %d, %d, %d and %d tell", c.want, c.window, c.target, c.est, c.told)
		}
		holdBoth(t, c.window, c.target, c.est, c.told)
	}
}

func holdBoth(t *testing.T, window, target, est, told int) {
	t.Helper()
	if n, want := grow.Both(window, target, est, told), trueBoth(window, target, est, told); n != want {
		t.Fatalf("Both(%d, %d, %d, %d): %d, not %d", window, target, est, told, n, want)
	}
}

// P14.3: all edges of all four beside each other, est around Calm's too.
func TestBothAsTheTrueNumber(t *testing.T) {
	ends := append(edges(), greatest/2, 17*one+5)
	some := []int{fewest, -1, 0, 4, one, eight, 10 * one, greatest, greatest + 1, most}
	for _, window := range append(ends, windows()...) {
		for _, target := range append(near(asInt(given(window))), ends...) {
			for _, told := range append(some, window/2, window) {
				for _, est := range append(near(grow.Calm(window, target, told)), some...) {
					holdBoth(t, window, target, est, told)
				}
			}
		}
	}
}

// P14.3: every edge as est, where what is told of leads a part of the way.
func TestBothOfEachEst(t *testing.T) {
	for _, est := range append(edges(), windows()...) {
		for _, window := range windows() {
			for _, target := range []int{window - 1, window, window + 2, window + window/2, 2 * greatest} {
				holdBoth(t, window, target, est, window/2)
				holdBoth(t, window, target, est, 0)
			}
		}
	}
}

// P14.3: it is Calm's, wherever est is not above that, and est, as far as it may be, wherever it is.
func TestBothBesideCalm(t *testing.T) {
	next := stirred(144)
	above := 0
	for range 100000 {
		window := two + next(30*one)
		target, told, est := window+next(window)-window/4, next(window), next(60*one)
		calm, n := grow.Calm(window, target, told), grow.Both(window, target, est, told)
		if est > calm {
			above++
		}
		if n != max(calm, est) {
			t.Fatalf("Both(%d, %d, %d, %d): %d, beside %d", window, target, est, told, n, calm)
		}
	}
	if above < 20000 || above > 80000 {
		t.Errorf("est was above Calm's %d times", above)
	}
}

// P14.3: windows below, at and above most, most at its edges, and both orders.
func TestLimit(t *testing.T) {
	for _, c := range []struct{ window, high, want int }{
		{10 * one, 20 * one, 10 * one},
		{20 * one, 10 * one, 10 * one},
		{10 * one, 10 * one, 10 * one},
		{10*one - 1, 10 * one, 10*one - 1},
		{10*one + 1, 10 * one, 10 * one},
		{10 * one, 10*one - 1, 10*one - 1},
		{10 * one, 10*one + 1, 10 * one},
		{two, 10 * one, two},
		{10 * one, two, two},
		{two - 1, 10 * one, two},
		{10 * one, two - 1, two},
		{two + 1, 10 * one, two + 1},
		{10 * one, two + 1, two + 1},
		{two + 1, two, two},
		{two, two + 1, two},
		{two - 1, two + 1, two},
		{two + 1, two - 1, two},
		{0, 10 * one, two},
		{10 * one, 0, two},
		{-1, 10 * one, two},
		{10 * one, -1, two},
		{fewest, 10 * one, two},
		{10 * one, fewest, two},
		{fewest, fewest, two},
		{0, 0, two},
		{one, two, two},
		{greatest, 10 * one, 10 * one},
		{10 * one, greatest, 10 * one},
		{greatest - 1, greatest, greatest - 1},
		{greatest, greatest - 1, greatest - 1},
		{greatest, greatest, greatest},
		{greatest + 1, greatest, greatest},
		{greatest, greatest + 1, greatest},
		{greatest + 1, greatest + 1, greatest},
		{greatest + 1, greatest - 1, greatest - 1},
		{greatest - 1, greatest + 1, greatest - 1},
		{greatest + 5, greatest + 3, greatest},
		{2 * greatest, most, greatest},
		{most, most, greatest},
		{most, 10 * one, 10 * one},
		{10 * one, most, 10 * one},
		{most, fewest, two},
		{fewest, most, two},
	} {
		if trueLimit(c.window, c.high) != c.want {
			t.Errorf("%d is not what %d and %d tell", c.want, c.window, c.high)
		}
		holdLimit(t, c.window, c.high)
	}
}

func holdLimit(t *testing.T, window, high int) {
	t.Helper()
	if n, want := grow.Limit(window, high), trueLimit(window, high); n != want {
		t.Fatalf("Limit(%d, %d): %d, not %d", window, high, n, want)
	}
}

// P14.3: all edges of both beside each other, and neighbours, in both orders.
func TestLimitAsTheWords(t *testing.T) {
	next := stirred(145)
	l := append(edges(), windows()...)
	for range 60 {
		l = append(l, next(1<<62), -next(1<<62), next(greatest), next(20*one))
	}
	for _, window := range l {
		for _, high := range append(l, near(window)...) {
			holdLimit(t, window, high)
			holdLimit(t, high, window)
		}
	}
}

// P14.4: all lie between two segments and the greatest window, whatever is handed in.
func TestAllLieInTheirBounds(t *testing.T) {
	l := append(edges(), windows()...)
	for _, a := range l {
		for _, b := range l {
			isWindow(t, "Limit", grow.Limit(a, b))
			for _, h := range phases() {
				isWindow(t, "Slow", grow.Slow(a, b, h))
			}
			for _, c := range l {
				isWindow(t, "Calm", grow.Calm(a, b, c))
				isWindow(t, "Both", grow.Both(a, b, c, one))
				isWindow(t, "Both", grow.Both(a, b, one, c))
			}
		}
	}
}

func isWindow(t *testing.T, call string, n int) {
	t.Helper()
	if n < two || n > greatest {
		t.Fatalf("%s: %d", call, n)
	}
}

// P14.4: neighbouring windows and far ones: none falls, and none is above its target, unless it was, or est is.
func TestNeverFallsNorGoesBeyond(t *testing.T) {
	next := stirred(146)
	l := windows()
	for by := range 100 {
		l = append(l, two+by, 10*one-50+by, greatest/2-50+by, greatest-by)
	}
	for range 300 {
		l = append(l, two+next(greatest-two+1), two+next(200*one))
	}
	for _, window := range l {
		for _, told := range []int{fewest, -1, 0, 1, 4, one, eight, window / 2, window - 1, window, greatest, most} {
			for _, h := range []api.Hystart{quick, gentle, done} {
				holdRises(t, "Slow", window, grow.Slow(window, told, h))
			}
			for _, target := range append(near(window), fewest, -1, 0, two, window/2, window+one, window+window/2, greatest, greatest+1, most) {
				n := grow.Calm(window, target, told)
				holdRises(t, "Calm", window, n)
				holdWithin(t, n, max(window, target))
				for _, est := range []int{fewest, 0, window - 1, window + 1, min(target, most-1) + 1, greatest, most} {
					n := grow.Both(window, target, est, told)
					holdRises(t, "Both", window, n)
					holdWithin(t, n, max(window, target, est))
				}
			}
		}
	}
}

func holdRises(t *testing.T, call string, window, n int) {
	t.Helper()
	if n < window {
		t.Fatalf("%s of %d: %d", call, window, n)
	}
}

func holdWithin(t *testing.T, n, high int) {
	t.Helper()
	if n > high {
		t.Fatalf("%d is above %d", n, high)
	}
}

// P14.4: over long rows, too, no window falls; slow start comes to the greatest one, and calm to its target, but not beyond.
func TestNeverFallsOverRows(t *testing.T) {
	next := stirred(147)
	for range 40 {
		slow, gentler, calm := two+next(10*one), two+next(10*one), two+next(10*one)
		target := calm + next(5*one)
		for range 600 {
			told := next(3*one) - one/2
			before := []int{slow, gentler, calm}
			slow, gentler, calm = grow.Slow(slow, told, quick), grow.Slow(gentler, told, gentle), grow.Calm(calm, target, told)
			for i, n := range []int{slow, gentler, calm} {
				if n < before[i] {
					t.Fatalf("%d: %d, behind %d", i, n, before[i])
				}
			}
			holdWithin(t, calm, target)
		}
		if calm = grow.Calm(calm, target, calm); calm != target {
			t.Fatalf("a whole window leads to %d, not %d", calm, target)
		}
	}
	n := two
	for range (greatest-two)/eight + 1 {
		n = grow.Slow(n, greatest, quick)
	}
	if n != greatest {
		t.Errorf("slow start comes to %d", n)
	}
}

// P14.4: more that is told, and a higher target, or est, lead no less far.
func TestMoreLeadsNoLessFar(t *testing.T) {
	next := stirred(148)
	for range 50000 {
		window := two + next(20*one)
		target, told, est := window+next(2*window)-window/2, next(2*window), next(40*one)
		n := grow.Both(window, target, est, told)
		for _, m := range []int{
			grow.Both(window, target+1+next(one), est, told),
			grow.Both(window, target, est+1+next(one), told),
			grow.Both(window, target, est, told+1+next(one)),
		} {
			if m < n {
				t.Fatalf("Both(%d, %d, %d, %d): %d, and %d of more", window, target, est, told, n, m)
			}
		}
	}
}

// The chapter's example, in segments.
func TestExample(t *testing.T) {
	if n := grow.Calm(10*one, 12*one, 5*one); n != 11*one {
		t.Errorf("%d", n)
	}
}

// R3, R4: what is answered hangs on the arguments alone: the same each time, whatever was asked between; and what is handed in is left as it was.
func TestSameAnswerEachTime(t *testing.T) {
	h := gentle
	for range 20 {
		grow.Slow(most, most, done)
		grow.Calm(fewest, most, 7)
		grow.Both(most, fewest, most, greatest)
		grow.Limit(3, fewest)
		slow, calm := grow.Slow(10*one, 5*one, h), grow.Calm(10*one, 12*one, 6)
		both, limit := grow.Both(10*one, 12*one, 13*one, one), grow.Limit(10*one, 9*one)
		if slow != 11*one+one/4 || calm != 10*one+1 || both != 13*one || limit != 9*one || h != gentle {
			t.Fatalf("%d, %d, %d, %d, %v", slow, calm, both, limit, h)
		}
	}
}
