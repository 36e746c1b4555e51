package cubic_test

import (
	"math"
	exact "math/big"
	"testing"

	"sawtooth/api"
	"sawtooth/cubic"
	"sawtooth/epoch"
)

const (
	most     = math.MaxInt64
	fewest   = math.MinInt64
	one      = api.One
	greatest = api.MaxSegs * api.One
	latest   = api.MaxTime
	longest  = 137883820
	far      = 1 << 31
)

// on is an epoch of all its fields; zero is the one that is not On.
func on(start, first, high, k, est int) api.Epoch {
	return api.Epoch{On: true, Start: start, First: first, Max: high, K: k, Est: est}
}

var zero = api.Epoch{}

func whole(n int) *exact.Int { return exact.NewInt(int64(n)) }

func plus(a, b *exact.Int) *exact.Int { return new(exact.Int).Add(a, b) }

func minus(a, b *exact.Int) *exact.Int { return new(exact.Int).Sub(a, b) }

func times(a, b *exact.Int) *exact.Int { return new(exact.Int).Mul(a, b) }

// between is n, low at least, and high at most.
func between(n, low, high *exact.Int) *exact.Int {
	switch {
	case n.Cmp(low) < 0:
		return low
	case n.Cmp(high) > 0:
		return high
	}
	return n
}

func held(n *exact.Int) *exact.Int { return between(n, whole(fewest), whole(most)) }

// cubed is n times n times n times 2^18, and divisor is 10^19, both of P12.1's words.
func cubed(n *exact.Int) *exact.Int {
	return times(times(times(n, n), n), whole(1<<18))
}

var divisor = new(exact.Int).Exp(whole(10), whole(19), nil)

// risen is P12.1 by its words, in true numbers, of which Div is from below.
func risen(d *exact.Int) *exact.Int {
	return new(exact.Int).Div(cubed(between(d, whole(-far), whole(far))), divisor)
}

func trueRise(d int) int { return int(risen(whole(d)).Int64()) }

// trueK tries the numbers bit by bit, from above: chapter 11's words.
func trueK(gap int) int {
	to := times(whole(min(max(gap, 0), greatest)), divisor)
	k := 0
	for bit := 40; bit >= 0; bit-- {
		if cubed(whole(k+1<<bit)).Cmp(to) <= 0 {
			k += 1 << bit
		}
	}
	return k
}

func isTime(n int) bool { return n >= 0 && n <= 1<<40 }

func isWindow(n int) bool { return n >= 0 && n <= 1<<36 }

// runs is chapter 11's words of an epoch that may be, and is On.
func runs(e api.Epoch) bool {
	if !e.On || !isTime(e.Start) {
		return false
	}
	if !isWindow(e.First) || !isWindow(e.Max) || !isWindow(e.Est) {
		return false
	}
	return e.Max >= e.First && e.K == trueK(e.Max-e.First)
}

// windowAt is P12.2's At of an epoch that runs: in true numbers, so that a time less K never goes round.
func windowAt(e api.Epoch, now *exact.Int) int {
	time := held(minus(now, whole(e.Start)))
	rise := risen(minus(time, whole(e.K)))
	return int(between(plus(whole(e.Max), rise), whole(0), whole(1<<36)).Int64())
}

func trueAt(e api.Epoch, now int) int {
	if !runs(e) {
		return 0
	}
	return windowAt(e, whole(now))
}

// trueTarget is P12.2 by its words, in true numbers, of which Div is from below.
func trueTarget(e api.Epoch, now, window int) int {
	if !runs(e) || window < 0 {
		return window
	}
	high := plus(whole(window), new(exact.Int).Div(whole(window), whole(2)))
	return int(between(whole(windowAt(e, whole(now))), whole(window), high).Int64())
}

// trueReach tries the numbers bit by bit, from above: those that do not reach the window come ahead of those that do.
func trueReach(e api.Epoch, window int) (int, bool) {
	if !runs(e) {
		return 0, false
	}
	reached := func(n int) bool {
		return windowAt(e, plus(whole(e.Start), whole(n))) >= window
	}
	last := far + e.K
	switch {
	case reached(0):
		return 0, true
	case !reached(last):
		return 0, false
	}
	n := 0
	for bit := 32; bit >= 0; bit-- {
		if to := n + 1<<bit; to <= last && !reached(to) {
			n = to
		}
	}
	return n + 1, true
}

// stirred is a row that looks like chance, and is the same each time.
func stirred(seed uint64) func(below int) int {
	return func(below int) int {
		seed = seed*6364136223846793005 + 1442695040888963407
		return int((seed >> 20) % uint64(below))
	}
}

// edges are around 0, the first time that rises, a second, the longest K, the farthest time, the greatest window, the last time, and powers of 2 up to both edges of 64 bits, on both sides.
func edges() []int {
	l := []int{}
	for _, n := range []int{0, 33663, api.Second, longest, far, 1 << 32, greatest, latest, 1 << 62} {
		l = append(l, n-2, n-1, n, n+1, n+2, -n-2, -n-1, -n, -n+1, -n+2)
	}
	return append(l, fewest, fewest+1, fewest+2, fewest+latest, fewest+latest+1, most-latest-1, most-latest, most-2, most-1, most)
}

// begun are epochs that run: windows at both ends, within, and beside each other; times at both ends, and within.
func begun() []api.Epoch {
	var l []api.Epoch
	for _, start := range []int{0, 100, latest} {
		for _, w := range [][2]int{
			{0, 0}, {0, 1}, {1, 1}, {1, 2}, {5, 26219}, {2 * one, 2 * one}, {6 * one, 10 * one}, {7*one + 1, 10*one + 3},
			{0, one}, {700 * one, 1000 * one}, {0, greatest / 2}, {0, greatest - 1}, {0, greatest}, {1, greatest},
			{greatest / 2, greatest}, {greatest - 1, greatest}, {greatest, greatest}, {greatest - 1, greatest - 1},
		} {
			l = append(l, on(start, w[0], w[1], trueK(w[1]-w[0]), w[0]))
		}
	}
	return l
}

// still are epochs of which no window is told: not On, not On with another field set, and On with one field, or more, that may not be.
func still() []api.Epoch {
	return []api.Epoch{
		zero,
		{Start: 1}, {Start: -1}, {First: 1}, {First: greatest}, {Max: 1}, {Max: greatest}, {K: 1}, {K: -1}, {Est: 1}, {Est: fewest},
		{Start: 100, First: 6 * one, Max: 10 * one, K: 2154434, Est: 6 * one},
		{Max: greatest, K: longest},
		{First: greatest, Max: greatest},
		{Start: most, First: most, Max: most, K: most, Est: most},

		on(-1, 6*one, 10*one, 2154434, 6*one),
		on(latest+1, 6*one, 10*one, 2154434, 6*one),
		on(fewest, 6*one, 10*one, 2154434, 6*one),
		on(most, 6*one, 10*one, 2154434, 6*one),

		on(100, -1, 10*one, trueK(10*one+1), 0),
		on(100, -1, -1, 0, 0),
		on(100, 10*one+1, 10*one, 0, 0),
		on(100, greatest+1, greatest, 0, 0),
		on(100, greatest+1, greatest+1, 0, 0),
		on(100, fewest, greatest, longest, 0),
		on(100, most, most, 0, 0),

		on(100, 6*one, 6*one-1, 0, 6*one),
		on(100, 6*one, greatest+1, trueK(greatest+1-6*one), 6*one),
		on(100, 0, greatest+1, longest, 0),
		on(100, 6*one, -1, 0, 6*one),
		on(100, 6*one, fewest, 0, 6*one),
		on(100, 6*one, most, longest, 6*one),

		on(100, 6*one, 10*one, 2154433, 6*one),
		on(100, 6*one, 10*one, 2154435, 6*one),
		on(100, 6*one, 10*one, 0, 6*one),
		on(100, 6*one, 10*one, -2154434, 6*one),
		on(100, 6*one, 10*one, fewest, 6*one),
		on(100, 6*one, 10*one, most, 6*one),
		on(100, 10*one, 10*one, 1, 10*one),
		on(100, 10*one, 10*one, -1, 10*one),

		on(100, 6*one, 10*one, 2154434, -1),
		on(100, 6*one, 10*one, 2154434, greatest+1),
		on(100, 6*one, 10*one, 2154434, fewest),
		on(100, 6*one, 10*one, 2154434, most),

		on(fewest, fewest, fewest, fewest, fewest),
		on(most, most, most, most, most),
		on(fewest, fewest, most, longest, 0),
	}
}

// What the lists above tell is what they say: the true words, and epoch's own, agree on it.
func TestTheListsAreWhatTheySay(t *testing.T) {
	for _, e := range begun() {
		if !runs(e) || !epoch.Check(e) {
			t.Errorf("%+v does not run", e)
		}
	}
	for _, e := range still() {
		if runs(e) || e.On && epoch.Check(e) {
			t.Errorf("%+v runs", e)
		}
	}
}

// P12.1: 0 and both its neighbours, the chapter's examples, where it grows first, the farthest times on both sides, and both edges.
func TestRise(t *testing.T) {
	for _, c := range []struct{ d, want int }{
		{0, 0},
		{1, 0},
		{-1, -1},
		{2, 0},
		{-2, -1},
		{1000, 0},
		{-1000, -1},
		{33662, 0},
		{33663, 0},
		{33664, 1},
		{-33662, -1},
		{-33663, -1},
		{-33664, -2},
		{-33665, -2},
		{42412, 1},
		{42413, 2},
		{-42412, -2},
		{-42413, -3},
		{999994, 26213},
		{999995, 26214},
		{api.Second, 26214},
		{-api.Second, -26215},
		{2 * api.Second, 209715},
		{-2 * api.Second, -209716},
		{5 * api.Second, 3276800},
		{-5 * api.Second, -3276800},
		{5*api.Second + 1, 3276801},
		{-5*api.Second - 1, -3276802},
		{longest, 68719476493},
		{longest + 1, 68719477988},
		{-longest, -68719476494},
		{-longest - 1, -68719477989},
		{far - 1, 259614842564063},
		{far, 259614842926741},
		{far + 1, 259614842926741},
		{far + 2, 259614842926741},
		{-far + 1, -259614842564064},
		{-far, -259614842926742},
		{-far - 1, -259614842926742},
		{-far - 2, -259614842926742},
		{1 << 32, 259614842926741},
		{-1 << 32, -259614842926742},
		{latest, 259614842926741},
		{-latest, -259614842926742},
		{most - 1, 259614842926741},
		{most, 259614842926741},
		{fewest + 1, -259614842926742},
		{fewest, -259614842926742},
	} {
		if trueRise(c.d) != c.want {
			t.Errorf("%d is not what %d rises by", c.want, c.d)
		}
		if n := cubic.Rise(c.d); n != c.want {
			t.Errorf("Rise(%d): %d, not %d", c.d, n, c.want)
		}
	}
}

// P12.1: around 0, around both farthest times, around powers of 2 up to both edges, and far ones, in true numbers.
func TestRiseAsTheTrueNumber(t *testing.T) {
	for d := -3000; d <= 3000; d++ {
		holdRise(t, d)
		holdRise(t, far+d)
		holdRise(t, -far+d)
	}
	for shift := range 63 {
		for by := -3; by <= 3; by++ {
			holdRise(t, 1<<shift-1+by)
			holdRise(t, -1<<shift+by)
		}
	}
	for _, d := range edges() {
		holdRise(t, d)
	}
	next := stirred(12)
	for range 20000 {
		holdRise(t, next(far))
		holdRise(t, -next(far))
		holdRise(t, next(7200000)-3600000)
	}
}

func holdRise(t *testing.T, d int) {
	t.Helper()
	if n := cubic.Rise(d); n != trueRise(d) {
		t.Fatalf("Rise(%d): %d, not %d", d, n, trueRise(d))
	}
}

// growsTo is the least d of which n is told, or more: the least one whose cube, times 2^18, is at least n times 10^19.
func growsTo(n int) int {
	to := times(whole(n), divisor)
	low, high := -far, far
	for low < high {
		d := low + (high-low)/2
		if cubed(whole(d)).Cmp(to) < 0 {
			low = d + 1
		} else {
			high = d
		}
	}
	return low
}

// P12.1: just below, at, and just above the times at which it grows, on both sides of 0; by one alone, up to 3.5 seconds.
func TestRiseWhereItGrows(t *testing.T) {
	next := stirred(121)
	l := []int{-3, -2, -1, 0, 1, 2, 3, 26213, 26214, 26215, -26213, -26214, -26215, -26216, 209715, 209716, -209715, -209716, 1 << 20, -1 << 20}
	for range 3000 {
		l = append(l, next(1<<20), -next(1<<20))
	}
	for _, n := range l {
		d := growsTo(n)
		for by := -2; by <= 2; by++ {
			holdRise(t, d+by)
		}
		if below, at := cubic.Rise(d-1), cubic.Rise(d); below != n-1 || at != n {
			t.Fatalf("Rise(%d) and Rise(%d): %d and %d, for %d", d-1, d, below, at, n)
		}
	}
	for range 3000 {
		n := next(1<<47) - 1<<46
		d := growsTo(n)
		if below, at := cubic.Rise(d-1), cubic.Rise(d); below >= n || at < n {
			t.Fatalf("Rise(%d) and Rise(%d): %d and %d, for %d", d-1, d, below, at, n)
		}
		holdRise(t, d-1)
		holdRise(t, d)
	}
}

// P12.2: below Start, at it, at Start and K added, and later; where 0, and where the greatest window is the answer; Start at both ends; now at both edges.
func TestAt(t *testing.T) {
	ten := on(100, 6*one, 10*one, 2154434, 6*one)
	late := on(latest, 6*one, 10*one, 2154434, 6*one)
	low := on(0, 0, 0, 0, 0)
	wide := on(0, 0, greatest, longest, 0)
	top := on(100, greatest, greatest, 0, greatest)
	for _, c := range []struct {
		e         api.Epoch
		now, want int
	}{
		{ten, 100, 393216},
		{ten, 99, 393215},
		{ten, 101, 393216},
		{ten, 103, 393217},
		{ten, 0, 393179},
		{ten, -api.Second, 0},
		{ten, 100 + 2154433, 655359},
		{ten, 100 + 2154434, 655360},
		{ten, 100 + 2154435, 655360},
		{ten, 100 + 2154434 + 33663, 655360},
		{ten, 100 + 2154434 + 33664, 655361},
		{ten, 100 + 2154434 + api.Second, 681574},
		{ten, 100 + 140037814, 68719473985},
		{ten, 100 + 140037815, 68719475480},
		{ten, 100 + 140037816, greatest},
		{ten, 100 + 140037817, greatest},
		{ten, 100 + far, greatest},
		{ten, latest, greatest},
		{ten, most - 1, greatest},
		{ten, most, greatest},
		{ten, fewest, 0},
		{ten, fewest + 1, 0},
		{ten, fewest + 100, 0},
		{ten, 100 - far, 0},
		{late, latest, 393216},
		{late, latest - 1, 393215},
		{late, latest + 2154434, 655360},
		{late, latest + 2154434 + api.Second, 681574},
		{late, 0, 0},
		{late, fewest, 0},
		{late, most, greatest},
		{low, 0, 0},
		{low, 33663, 0},
		{low, 33664, 1},
		{low, api.Second, 26214},
		{low, -1, 0},
		{low, longest, 68719476493},
		{low, longest + 1, greatest},
		{low, most, greatest},
		{low, fewest, 0},
		{wide, -1, 0},
		{wide, 0, 242},
		{wide, 1, 1737},
		{wide, longest - 1, greatest - 1},
		{wide, longest, greatest},
		{wide, longest + 1, greatest},
		{wide, most, greatest},
		{wide, fewest, 0},
		{top, 100, greatest},
		{top, 99, greatest - 1},
		{top, 101, greatest},
		{top, 100 - api.Second, greatest - 26215},
		{top, 100 - longest, 242},
		{top, 100 - longest - 1, 0},
		{top, most, greatest},
		{top, fewest, 0},
	} {
		if trueAt(c.e, c.now) != c.want {
			t.Errorf("%d is not the window of %+v at %d", c.want, c.e, c.now)
		}
		if n := cubic.At(c.e, c.now); n != c.want {
			t.Errorf("At(%+v, %d): %d, not %d", c.e, c.now, n, c.want)
		}
	}
}

// nows are times around where the epoch begins, around where it is back, around where the law leaves 0 and comes to the greatest window, and all edges.
func nows(e api.Epoch) []int {
	l := edges()
	for _, at := range []int{e.Start, e.Start + e.K, e.Start + e.K + growsTo(-e.Max), e.Start + e.K + growsTo(1-e.Max), e.Start + e.K + growsTo(greatest-e.Max), e.Start + far, e.Start + e.K + far, e.Start + e.K - far} {
		l = append(l, at-api.Second, at-2, at-1, at, at+1, at+2, at+api.Second)
	}
	return append(l, fewest+e.Start-1, fewest+e.Start, fewest+e.Start+1, fewest+e.Start+e.K)
}

// P12.2: epochs that run, at all of those times, in true numbers; Est counts for nothing.
func TestAtAsTheTrueNumber(t *testing.T) {
	next := stirred(122)
	for _, e := range begun() {
		l := nows(e)
		for range 30 {
			l = append(l, e.Start+e.K+next(2*longest)-longest, e.Start+next(e.K+1))
		}
		for i, now := range l {
			e.Est = []int{0, 1, e.First, e.Max, greatest}[i%5]
			if n, want := cubic.At(e, now), windowAt(e, whole(now)); n != want {
				t.Fatalf("At(%+v, %d): %d, not %d", e, now, n, want)
			}
		}
	}
}

// P12.2: a window below At, at it, between At and two thirds of it, around those of which At is the half more, below 0, of 0 and 1, uneven, and at both edges.
func TestTarget(t *testing.T) {
	ten := on(100, 6*one, 10*one, 2154434, 6*one)
	low := on(0, 0, 0, 0, 0)
	top := on(100, greatest, greatest, 0, greatest)
	for _, c := range []struct {
		e                 api.Epoch
		now, window, want int
	}{
		{ten, 100, 393215, 393216},
		{ten, 100, 393216, 393216},
		{ten, 100, 393217, 393217},
		{ten, 100, 300000, 393216},
		{ten, 100, 262146, 393216},
		{ten, 100, 262145, 393216},
		{ten, 100, 262144, 393216},
		{ten, 100, 262143, 393214},
		{ten, 100, 262142, 393213},
		{ten, 100, 262141, 393211},
		{ten, 100, 6 * one, 6 * one},
		{ten, 100, 7 * one, 7 * one},
		{ten, 100, 100, 150},
		{ten, 100, 101, 151},
		{ten, 100, 7, 10},
		{ten, 100, 6, 9},
		{ten, 100, 5, 7},
		{ten, 100, 4, 6},
		{ten, 100, 3, 4},
		{ten, 100, 2, 3},
		{ten, 100, 1, 1},
		{ten, 100, 0, 0},
		{ten, 100, -1, -1},
		{ten, 100, -2, -2},
		{ten, 100, -3, -3},
		{ten, 100, -393216, -393216},
		{ten, 100, -greatest, -greatest},
		{ten, 100, fewest, fewest},
		{ten, 100, fewest + 1, fewest + 1},
		{ten, 100, greatest, greatest},
		{ten, 100, greatest + 1, greatest + 1},
		{ten, 100, 1 << 62, 1 << 62},
		{ten, 100, most/3*2 + 1, most/3*2 + 1},
		{ten, 100, most/3*2 + 2, most/3*2 + 2},
		{ten, 100, most - 1, most - 1},
		{ten, 100, most, most},
		{ten, 100 + 2154434, 6 * one, 9 * one},
		{ten, 100 + 2154434, 436905, 655357},
		{ten, 100 + 2154434, 436906, 655359},
		{ten, 100 + 2154434, 436907, 655360},
		{ten, 100 + 2154434, 436908, 655360},
		{ten, 100 + 2154434, 655359, 655360},
		{ten, 100 + 2154434, 655360, 655360},
		{ten, 100 + 2154434, 655361, 655361},
		{ten, most, 10 * one, 15 * one},
		{ten, most, greatest, greatest},
		{ten, most, 45812984491, greatest},
		{ten, most, 45812984490, greatest - 1},
		{ten, most, 45812984489, greatest - 3},
		{ten, most, most, most},
		{ten, most, fewest, fewest},
		{ten, fewest, 0, 0},
		{ten, fewest, 1, 1},
		{ten, fewest, 10 * one, 10 * one},
		{ten, fewest, -1, -1},
		{ten, fewest, fewest, fewest},
		{ten, fewest, most, most},
		{low, 0, 0, 0},
		{low, 0, 1, 1},
		{low, 0, -1, -1},
		{low, 33664, 0, 0},
		{low, 33664, 1, 1},
		{low, 42413, 1, 1},
		{low, 42413, 2, 2},
		{low, 48550, 2, 2},
		{low, 48551, 2, 3},
		{low, 53437, 2, 3},
		{low, 53437, 3, 4},
		{low, api.Second, 26213, 26214},
		{top, 100, greatest - 1, greatest},
		{top, 100, greatest, greatest},
		{top, 100, greatest + 1, greatest + 1},
		{top, 100, 5, 7},
	} {
		if trueTarget(c.e, c.now, c.window) != c.want {
			t.Errorf("%d is not the target of %+v at %d, of %d", c.want, c.e, c.now, c.window)
		}
		if n := cubic.Target(c.e, c.now, c.window); n != c.want {
			t.Errorf("Target(%+v, %d, %d): %d, not %d", c.e, c.now, c.window, n, c.want)
		}
	}
}

// P12.2: epochs that run, below, at and behind their beginning, of windows around the law's and two thirds of it, all small ones, and all edges, in true numbers.
func TestTargetAsTheTrueNumber(t *testing.T) {
	for _, e := range begun() {
		for _, now := range []int{fewest, e.Start - 1, e.Start, e.Start + e.K/2, e.Start + e.K, e.Start + e.K + 42413, e.Start + e.K + 3*api.Second, e.Start + 2*longest, most} {
			at := windowAt(e, whole(now))
			l := append(edges(), most/3*2-1, most/3*2, most/3*2+1, most/3*2+2, most/3*2+3)
			for by := -7; by <= 7; by++ {
				l = append(l, by, at+by, at/3*2+by, -at+by)
			}
			for _, window := range l {
				if n, want := cubic.Target(e, now, window), trueTarget(e, now, window); n != want {
					t.Fatalf("Target(%+v, %d, %d): %d, not %d", e, now, window, n, want)
				}
			}
		}
	}
}

// P12.3: what the law has at its beginning already; around First, Max and the greatest window; below 0; both edges; and what is never reached.
func TestReach(t *testing.T) {
	ten := on(100, 6*one, 10*one, 2154434, 6*one)
	some := on(latest, 5, 26219, 999994, 5)
	low := on(0, 0, 0, 0, 0)
	wide := on(0, 0, greatest, longest, 0)
	near := on(latest, greatest-1, greatest, 33663, 0)
	top := on(100, greatest, greatest, 0, greatest)
	for _, c := range []struct {
		e            api.Epoch
		window, want int
		has          bool
	}{
		{ten, fewest, 0, true},
		{ten, fewest + 1, 0, true},
		{ten, -1, 0, true},
		{ten, 0, 0, true},
		{ten, 1, 0, true},
		{ten, 393215, 0, true},
		{ten, 393216, 0, true},
		{ten, 393217, 3, true},
		{ten, 393218, 5, true},
		{ten, 655359, 2120771, true},
		{ten, 655360, 2154434, true},
		{ten, 655361, 2188098, true},
		{ten, greatest - 1, 140037816, true},
		{ten, greatest, 140037816, true},
		{ten, greatest + 1, 0, false},
		{ten, greatest + 2, 0, false},
		{ten, 1 << 62, 0, false},
		{ten, most - 1, 0, false},
		{ten, most, 0, false},
		{some, 4, 0, true},
		{some, 5, 0, true},
		{some, 6, 12, true},
		{some, 26218, 966331, true},
		{some, 26219, 999994, true},
		{some, 26220, 1033658, true},
		{some, greatest, 138883797, true},
		{some, greatest + 1, 0, false},
		{low, fewest, 0, true},
		{low, -1, 0, true},
		{low, 0, 0, true},
		{low, 1, 33664, true},
		{low, 2, 42413, true},
		{low, 26214, 999995, true},
		{low, greatest - 1, 137883821, true},
		{low, greatest, 137883821, true},
		{low, greatest + 1, 0, false},
		{wide, 0, 0, true},
		{wide, 1, 0, true},
		{wide, 241, 0, true},
		{wide, 242, 0, true},
		{wide, 243, 1, true},
		{wide, 1737, 1, true},
		{wide, 1738, 2, true},
		{wide, greatest - 1, 137850157, true},
		{wide, greatest, longest, true},
		{wide, greatest + 1, 0, false},
		{wide, most, 0, false},
		{near, greatest - 1, 0, true},
		{near, greatest, 33663, true},
		{near, greatest + 1, 0, false},
		{top, greatest - 1, 0, true},
		{top, greatest, 0, true},
		{top, greatest + 1, 0, false},
		{top, fewest, 0, true},
		{top, most, 0, false},
	} {
		if n, has := trueReach(c.e, c.window); n != c.want || has != c.has {
			t.Errorf("%d, %v is not when %+v reaches %d", c.want, c.has, c.e, c.window)
		}
		if n, has := cubic.Reach(c.e, c.window); n != c.want || has != c.has {
			t.Errorf("Reach(%+v, %d): %d, %v, not %d, %v", c.e, c.window, n, has, c.want, c.has)
		}
	}
}

// P12.3: epochs that run, of windows around their beginning, First, Max and the greatest one, of all edges, and of others, by the words: At of what is told has the window, and of the one before has not.
func TestReachAsTheWords(t *testing.T) {
	next := stirred(123)
	for _, e := range begun() {
		begins := windowAt(e, whole(e.Start))
		l := edges()
		for by := -2; by <= 2; by++ {
			l = append(l, e.First+by, begins+by, e.Max+by, e.Max/2+by, greatest+by)
		}
		for range 10 {
			l = append(l, next(greatest), e.First+next(e.Max-e.First+1), e.Max+next(one))
		}
		for _, window := range l {
			holdReach(t, e, window)
		}
	}
}

func holdReach(t *testing.T, e api.Epoch, window int) {
	t.Helper()
	n, has := cubic.Reach(e, window)
	if want, wantHas := trueReach(e, window); n != want || has != wantHas {
		t.Fatalf("Reach(%+v, %d): %d, %v, not %d, %v", e, window, n, has, want, wantHas)
	}
	if !has {
		if last := cubic.At(e, e.Start+far+e.K); last >= window {
			t.Fatalf("Reach(%+v, %d): never, and the last one is %d", e, window, last)
		}
		return
	}
	if n < 0 || n > far+e.K {
		t.Fatalf("Reach(%+v, %d): %d is too far", e, window, n)
	}
	if at := cubic.At(e, e.Start+n); at < window {
		t.Fatalf("Reach(%+v, %d): %d, where %d is", e, window, n, at)
	}
	if n > 0 && cubic.At(e, e.Start+n-1) >= window {
		t.Fatalf("Reach(%+v, %d): %d, and the one before has it", e, window, n)
	}
}

// The head of the promises: of an epoch that is not On, or may not be, by each field, no window is told, and none is reached.
func TestStillEpochs(t *testing.T) {
	l := append(edges(), 100, 100+2154434, 3*api.Second, 6*one, 10*one)
	for _, e := range still() {
		for _, n := range l {
			if w := cubic.At(e, n); w != 0 {
				t.Fatalf("At(%+v, %d): %d", e, n, w)
			}
			if to, has := cubic.Reach(e, n); to != 0 || has {
				t.Fatalf("Reach(%+v, %d): %d, %v", e, n, to, has)
			}
		}
		for _, now := range []int{fewest, -1, 0, 100, 100 + 2154434, latest, most} {
			for _, window := range l {
				if w := cubic.Target(e, now, window); w != window {
					t.Fatalf("Target(%+v, %d, %d): %d", e, now, window, w)
				}
			}
		}
	}
}

// P12.2, P12.3: each field at its ends, and just beyond, with windows that may be, and that may not, beside each other.
func TestFieldsAsTheWords(t *testing.T) {
	running, others := 0, 0
	all(func(e api.Epoch) {
		for _, now := range []int{fewest, 0, 1500000, latest, most} {
			if n, want := cubic.At(e, now), trueAt(e, now); n != want {
				t.Fatalf("At(%+v, %d): %d, not %d", e, now, n, want)
			}
			if n, want := cubic.Target(e, now, one), trueTarget(e, now, one); n != want {
				t.Fatalf("Target(%+v, %d): %d, not %d", e, now, n, want)
			}
		}
		n, has := cubic.Reach(e, 26214)
		if want, wantHas := trueReach(e, 26214); n != want || has != wantHas {
			t.Fatalf("Reach(%+v): %d, %v, not %d, %v", e, n, has, want, wantHas)
		}
		if runs(e) {
			running++
		} else {
			others++
		}
	})
	if running < 20 || others < 1000 {
		t.Errorf("only %d that run, and %d that do not", running, others)
	}
}

// all are fields at their ends, and just beyond, beside each other, On and not On, with a K as it must be, one less, and one more.
func all(use func(e api.Epoch)) {
	for _, first := range []int{-1, 0, 26214, greatest, greatest + 1} {
		for _, high := range []int{-1, 0, 26214, greatest, greatest + 1} {
			k := trueK(high - first)
			for _, k := range []int{k, k - 1, k + 1} {
				rest(on(0, first, high, k, 0), use)
			}
		}
	}
}

func rest(e api.Epoch, use func(e api.Epoch)) {
	for which := range 2 {
		e.On = which == 1
		for _, e.Start = range []int{-1, 0, latest, latest + 1} {
			for _, e.Est = range []int{-1, 0, greatest, greatest + 1} {
				use(e)
			}
		}
	}
}

// P12.4: what rises is 0 of 0, and is less than one part below 4 tenths of the cube: times 10^19 both are told beside each other, without a rest.
func TestRiseIsLessThanOnePartBelow(t *testing.T) {
	if n := cubic.Rise(0); n != 0 {
		t.Errorf("Rise(0): %d", n)
	}
	next := stirred(124)
	l := []int{-far, -far + 1, -1, 0, 1, far - 1, far}
	for range 20000 {
		l = append(l, next(far), -next(far), next(8000000)-4000000)
	}
	for _, d := range l {
		below := minus(cubed(whole(d)), times(whole(cubic.Rise(d)), divisor))
		if below.Sign() < 0 || below.Cmp(divisor) >= 0 {
			t.Fatalf("Rise(%d): %d is %v of 10^19 below", d, cubic.Rise(d), below)
		}
	}
}

// P12.4: over neighbouring times it does not fall: around 0, where it grows, and at both farthest times; and from 3.6 seconds on it rises with each.
func TestRiseRisesWithTheTime(t *testing.T) {
	next := stirred(125)
	l := []int{-150, -33664, 33500, -42413, 42300, -far - 150, far - 150, -longest - 150, longest - 150, api.Second - 150, fewest, most - 300}
	for range 100 {
		l = append(l, next(far), -next(far), next(7200000)-3600000)
	}
	for _, from := range l {
		last := cubic.Rise(from)
		for by := 1; by <= 300; by++ {
			d := from + by
			n := cubic.Rise(d)
			if n < last {
				t.Fatalf("Rise(%d): %d, and of one less %d", d, n, last)
			}
			if n == last && (d > 3600000 && d <= far || d <= -3600000 && d > -far) {
				t.Fatalf("Rise(%d): %d, as of one less", d, n)
			}
			last = n
		}
	}
}

// P12.4: of far times, too, the greater one has no lesser rise, and no lesser window of the law.
func TestGreaterTimesHaveNoLesserWindow(t *testing.T) {
	next := stirred(126)
	l := edges()
	for range 300 {
		l = append(l, next(far), -next(far), next(8000000)-4000000, next(1<<62), -next(1<<62))
	}
	rises := make([]int, len(l))
	for i, d := range l {
		rises[i] = cubic.Rise(d)
	}
	for i, a := range l {
		for j, b := range l {
			if a < b && rises[i] > rises[j] {
				t.Fatalf("Rise(%d): %d, and Rise(%d): %d", a, rises[i], b, rises[j])
			}
		}
	}
	for _, e := range begun() {
		l := nows(e)
		windows := make([]int, len(l))
		for i, now := range l {
			windows[i] = cubic.At(e, now)
		}
		for i, a := range l {
			for j, b := range l {
				if a < b && windows[i] > windows[j] {
					t.Fatalf("At(%+v): %d at %d, and %d at %d", e, windows[i], a, windows[j], b)
				}
			}
		}
	}
}

// P12.4: epochs as they begin: the law is Max at K, and at the beginning First, or at most 1500 parts above; for long ones near to that many.
func TestLawAtItsBeginningAndAtK(t *testing.T) {
	next := stirred(127)
	above := 0
	hold := func(at, now, high int) {
		e, err := epoch.Begin(at, now, high)
		if err != api.OK {
			t.Fatalf("Begin(%d, %d, %d): %d", at, now, high, err)
		}
		if n := cubic.At(e, e.Start+e.K); n != e.Max {
			t.Fatalf("At(%+v) at K: %d", e, n)
		}
		by := cubic.At(e, e.Start) - e.First
		if by < 0 || by > 1500 {
			t.Fatalf("At(%+v) at the beginning: %d above", e, by)
		}
		above = max(above, by)
	}
	ends := []int{0, 1, 2, 26214, 2 * one, 10 * one, greatest / 2, greatest - 1, greatest}
	for _, now := range ends {
		for _, high := range ends {
			for _, at := range []int{0, 1, latest - 1, latest} {
				hold(at, now, high)
			}
		}
	}
	for range 3000 {
		hold(next(latest), next(greatest), next(greatest))
		hold(next(latest), next(200*one), next(200*one))
		hold(next(latest), next(1<<20), greatest-next(1<<20))
	}
	if above < 1400 {
		t.Errorf("only %d above, at most", above)
	}
}

// The chapter's examples, and the fifth of the whole: four segments below where it was, it is back at K.
func TestExamples(t *testing.T) {
	for _, c := range []struct{ d, want int }{{api.Second, 26214}, {2 * api.Second, 209715}} {
		if n := cubic.Rise(c.d); n != c.want {
			t.Errorf("Rise(%d): %d", c.d, n)
		}
	}
	e, _ := epoch.Begin(7, 6*one, 10*one)
	if n, has := cubic.Reach(e, 10*one); n != 2154434 || !has {
		t.Errorf("Reach: %d, %v", n, has)
	}
}

// P12.2, P12.3: an epoch that is begun later tells the same windows later, and reaches them as long after.
func TestShiftedEpochs(t *testing.T) {
	for _, e := range begun() {
		later := epoch.Shift(e, 12345)
		by := later.Start - e.Start
		for _, passed := range []int{-api.Second, -1, 0, 1, e.K / 2, e.K, e.K + api.Second, longest, far} {
			if a, b := cubic.At(e, e.Start+passed), cubic.At(later, e.Start+by+passed); a != b {
				t.Fatalf("At(%+v), and later by %d: %d and %d", e, by, a, b)
			}
		}
		for _, window := range []int{e.First + 1, e.Max, e.Max + 1, greatest} {
			n, has := cubic.Reach(e, window)
			if m, had := cubic.Reach(later, window); n != m || has != had {
				t.Fatalf("Reach(%+v, %d), and later by %d: %d and %d", e, window, by, n, m)
			}
		}
	}
}

// R3, R4: what is answered hangs on the arguments alone: the same each time, whatever was asked between.
func TestSameAnswerEachTime(t *testing.T) {
	e := on(100, 6*one, 10*one, 2154434, 6*one)
	for range 20 {
		cubic.Rise(-5)
		cubic.At(zero, 7)
		cubic.Target(on(1, 2, 3, 4, 5), 6, 7)
		cubic.Reach(on(0, 0, greatest, longest, 0), most)
		if cubic.Rise(api.Second) != 26214 || cubic.At(e, 100) != 6*one || cubic.Target(e, 100, 100) != 150 {
			t.Fatalf("%d, %d, %d", cubic.Rise(api.Second), cubic.At(e, 100), cubic.Target(e, 100, 100))
		}
		if n, has := cubic.Reach(e, 10*one); n != 2154434 || !has || e != on(100, 6*one, 10*one, 2154434, 6*one) {
			t.Fatalf("%d, %v, %+v", n, has, e)
		}
	}
}
