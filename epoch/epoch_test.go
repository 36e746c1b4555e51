package epoch_test

import (
	"math"
	exact "math/big"
	"testing"

	"sawtooth/api"
	"sawtooth/epoch"
)

const (
	most     = math.MaxInt64
	fewest   = math.MinInt64
	greatest = api.MaxSegs * api.One
	latest   = api.MaxTime
	longest  = 137883820
)

// on is an epoch of all its fields; zero is the one that is not On.
func on(start, first, high, k, est int) api.Epoch {
	return api.Epoch{On: true, Start: start, First: first, Max: high, K: k, Est: est}
}

var zero = api.Epoch{}

func whole(n int) *exact.Int { return exact.NewInt(int64(n)) }

func times(a, b *exact.Int) *exact.Int { return new(exact.Int).Mul(a, b) }

// risen is n times n times n times 2^18, and reached gap times 10^19, both of P11.1's words.
func risen(n int) *exact.Int {
	return times(times(times(whole(n), whole(n)), whole(n)), whole(1<<18))
}

func reached(gap int) *exact.Int {
	return times(whole(gap), new(exact.Int).Exp(whole(10), whole(19), nil))
}

// isK holds k against P11.1's words, in true numbers.
func isK(gap, k int) bool {
	if gap < 0 {
		return k == 0
	}
	to := reached(min(gap, greatest))
	return k >= 0 && risen(k).Cmp(to) <= 0 && risen(k+1).Cmp(to) > 0
}

// trueK tries the numbers bit by bit, from above.
func trueK(gap int) int {
	if gap < 0 {
		return 0
	}
	to := reached(min(gap, greatest))
	k := 0
	for bit := 40; bit >= 0; bit-- {
		if risen(k+1<<bit).Cmp(to) <= 0 {
			k += 1 << bit
		}
	}
	return k
}

// gapOf is the least gap of which K is n: n times n times n times 2^18, divided by 10^19, from above.
func gapOf(n int) int {
	d := reached(1)
	up := new(exact.Int).Add(risen(n), new(exact.Int).Sub(d, whole(1)))
	return int(new(exact.Int).Div(up, d).Int64())
}

// trueFast is P11.2 by its words, in true numbers, of which Div is from below.
func trueFast(last, now int) int {
	if now >= last {
		return now
	}
	if now < 0 {
		return 0
	}
	part := new(exact.Int).Div(times(whole(now), whole(17)), whole(20))
	if !part.IsInt64() {
		return 0
	}
	return int(part.Int64())
}

func isTime(n int) bool { return n >= 0 && n <= 1<<40 }

func isWindow(n int) bool { return n >= 0 && n <= 1<<36 }

// mayBe is as the chapter's words say it, one behind the other.
func mayBe(e api.Epoch) bool {
	if !e.On {
		return e.Start == 0 && e.First == 0 && e.Max == 0 && e.K == 0 && e.Est == 0
	}
	if !isTime(e.Start) {
		return false
	}
	if !isWindow(e.First) || !isWindow(e.Max) || !isWindow(e.Est) {
		return false
	}
	if e.Max < e.First {
		return false
	}
	return e.K == trueK(e.Max-e.First)
}

// trueBegin is P11.3 by its words, one behind the other.
func trueBegin(at, now, high int) (api.Epoch, api.Errno) {
	if !isTime(at) || !isWindow(now) || !isWindow(high) {
		return zero, api.ErrField
	}
	e := api.Epoch{On: true, Start: at, First: now, Max: now, Est: now}
	if high > now {
		e.Max = high
	}
	e.K = trueK(e.Max - e.First)
	return e, api.OK
}

// trueShift is P11.3 by its words, in true numbers.
func trueShift(e api.Epoch, by int) api.Epoch {
	if !e.On || by < 1 {
		return e
	}
	to := new(exact.Int).Add(whole(e.Start), whole(by))
	if to.Cmp(whole(1<<40)) > 0 {
		to = whole(1 << 40)
	}
	e.Start = int(to.Int64())
	return e
}

// stirred is a row that looks like chance, and is the same each time.
func stirred(seed uint64) func(below int) int {
	return func(below int) int {
		seed = seed*6364136223846793005 + 1442695040888963407
		return int((seed >> 20) % uint64(below))
	}
}

// P11.1: below 0, the least ones, the chapter's example, whole segments, and the greatest one, and beyond.
func TestK(t *testing.T) {
	for _, c := range []struct{ gap, want int }{
		{fewest, 0},
		{fewest + 1, 0},
		{-greatest - 1, 0},
		{-greatest, 0},
		{-26214, 0},
		{-2, 0},
		{-1, 0},
		{0, 0},
		{1, 33663},
		{2, 42412},
		{3, 48550},
		{4, 53436},
		{8, 67326},
		{100, 156250},
		{26213, 999982},
		{26214, 999994},
		{26215, 1000007},
		{api.One - 1, 1357201},
		{api.One, 1357208},
		{api.One + 1, 1357215},
		{4 * api.One, 2154434},
		{10 * api.One, 2924017},
		{1 << 30, 34470955},
		{greatest / 2, 109438460},
		{greatest - 2000, longest - 2},
		{greatest - 1, longest},
		{greatest, longest},
		{greatest + 1, longest},
		{greatest + 2000, longest},
		{2 * greatest, longest},
		{1 << 62, longest},
		{most - 1, longest},
		{most, longest},
	} {
		if !isK(c.gap, c.want) {
			t.Errorf("%d is no K of %d", c.want, c.gap)
		}
		if k := epoch.K(c.gap); k != c.want {
			t.Errorf("K(%d): %d, not %d", c.gap, k, c.want)
		}
	}
}

// P11.1: all small gaps, all just below and above the greatest one, and powers of 2 up to both edges, in true numbers.
func TestKAsTheTrueNumber(t *testing.T) {
	for gap := -2000; gap <= 20000; gap++ {
		holdK(t, gap)
	}
	for by := -4000; by <= 4000; by++ {
		holdK(t, greatest+by)
	}
	for shift := range 63 {
		for by := -3; by <= 3; by++ {
			holdK(t, 1<<shift-1+by)
			holdK(t, -1<<shift+by)
		}
	}
	for by := range 5 {
		holdK(t, most-by)
		holdK(t, fewest+by)
	}
}

func holdK(t *testing.T, gap int) {
	t.Helper()
	if k := epoch.K(gap); !isK(gap, k) || k != trueK(gap) {
		t.Fatalf("K(%d): %d, not %d", gap, k, trueK(gap))
	}
}

// P11.1: just below, at, and just above the least gap of a K: n is first reached there; of long times K grows by one alone.
func TestKWhereItGrows(t *testing.T) {
	next := stirred(11)
	l := []int{1, 2, 33663, 33664, 42412, 42413, 999994, 999995, api.Second, 1000007, 2154434, 2154435, longest - 2, longest - 1, longest}
	for range 3000 {
		l = append(l, 1+next(longest), 3600000+next(longest-3600000))
	}
	for _, n := range l {
		gap := gapOf(n)
		for by := -2; by <= 2; by++ {
			holdK(t, gap+by)
		}
		below, at := epoch.K(gap-1), epoch.K(gap)
		if below >= n || at < n {
			t.Fatalf("K(%d) and K(%d): %d and %d, for %d", gap-1, gap, below, at, n)
		}
		if n >= 3600000 && (below != n-1 || at != n) {
			t.Fatalf("K(%d) and K(%d): %d and %d, for %d", gap-1, gap, below, at, n)
		}
	}
}

// The chapter's example, and the fifth of the whole.
func TestExamples(t *testing.T) {
	if gap := api.One * 4 / 10; gap != 26214 {
		t.Errorf("4 tenths of a segment: %d", gap)
	}
	if k := epoch.K(26214); k != 999994 {
		t.Errorf("K(26214): %d", k)
	}
	e, err := epoch.Begin(7, 6*api.One, 10*api.One)
	if e != on(7, 6*api.One, 10*api.One, 2154434, 6*api.One) || err != api.OK {
		t.Errorf("four segments below: %+v, %d", e, err)
	}
}

// P11.2: last below now, at it, and above it; each rest by 20; below 0; great ones, and both edges.
func TestFast(t *testing.T) {
	for _, c := range []struct{ last, now, want int }{
		{99, 100, 100},
		{100, 100, 100},
		{101, 100, 85},
		{most, 100, 85},
		{0, 100, 100},
		{-1, 100, 100},
		{fewest, 100, 100},
		{1, 0, 0},
		{0, 0, 0},
		{-1, 0, 0},
		{most, 0, 0},
		{most, 1, 0},
		{most, 2, 1},
		{most, 3, 2},
		{most, 4, 3},
		{most, 5, 4},
		{most, 6, 5},
		{most, 7, 5},
		{most, 8, 6},
		{most, 9, 7},
		{most, 10, 8},
		{most, 11, 9},
		{most, 12, 10},
		{most, 13, 11},
		{most, 14, 11},
		{most, 15, 12},
		{most, 16, 13},
		{most, 17, 14},
		{most, 18, 15},
		{most, 19, 16},
		{most, 20, 17},
		{most, 21, 17},
		{most, 22, 18},
		{12 * api.One, 10 * api.One, 557056},
		{greatest, greatest - 1, 58411555224},
		{greatest, greatest, greatest},
		{greatest + 1, greatest, 58411555225},
		{greatest, greatest + 1, greatest + 1},
		{most, greatest + 4, 58411555229},
		{most, most - 1, 7839866231326559435},
		{most, most, most},
		{most - 1, most, most},
		{fewest, most, most},
		{0, -1, 0},
		{1, -1, 0},
		{most, -1, 0},
		{most, -20, 0},
		{-1, -2, 0},
		{-1, -20, 0},
		{-19, -20, 0},
		{0, -greatest, 0},
		{-1, fewest, 0},
		{most, fewest, 0},
		{most, fewest + 1, 0},
		{fewest + 1, fewest, 0},
		{-1, -1, -1},
		{-2, -1, -1},
		{-20, -20, -20},
		{-21, -20, -20},
		{fewest, -20, -20},
		{fewest, fewest, fewest},
		{fewest, fewest + 1, fewest + 1},
	} {
		if n := epoch.Fast(c.last, c.now); n != c.want {
			t.Errorf("Fast(%d, %d): %d, not %d", c.last, c.now, n, c.want)
		}
	}
}

// edges are around 0, the greatest time and window, and powers of 2 up to both edges of 64 bits.
func edges() []int {
	l := []int{}
	for _, n := range []int{0, 20, 1 << 16, 1 << 31, 1 << 32, greatest, latest, 1 << 59, 1 << 62} {
		l = append(l, n-2, n-1, n, n+1, n+2, -n-1, -n, -n+1)
	}
	return append(l, fewest, fewest+1, fewest+2, fewest+19, most-20, most-2, most-1, most)
}

// P11.2: all small numbers beside each other, and all edges, in true numbers.
func TestFastAsTheWords(t *testing.T) {
	l := edges()
	for n := -70; n <= 90; n++ {
		l = append(l, n)
	}
	for by := range 21 {
		l = append(l, greatest-30+by, most-30+by)
	}
	for _, last := range l {
		for _, now := range l {
			if n := epoch.Fast(last, now); n != trueFast(last, now) {
				t.Fatalf("Fast(%d, %d): %d, not %d", last, now, n, trueFast(last, now))
			}
		}
	}
}

// P11.3: now below most, at it, and above it, with times and windows at both of their ends.
func TestBegin(t *testing.T) {
	for _, c := range []struct {
		at, now, most int
		want          api.Epoch
	}{
		{0, 0, 0, on(0, 0, 0, 0, 0)},
		{0, 0, 1, on(0, 0, 1, 33663, 0)},
		{0, 1, 0, on(0, 1, 1, 0, 1)},
		{1, 1, 1, on(1, 1, 1, 0, 1)},
		{latest, 5, 5, on(latest, 5, 5, 0, 5)},
		{latest - 1, 0, 2, on(latest-1, 0, 2, 42412, 0)},
		{1, 458752, 655360, on(1, 458752, 655360, 1957433, 458752)},
		{1, 655360, 458752, on(1, 655360, 655360, 0, 655360)},
		{9, 1000, 27214, on(9, 1000, 27214, 999994, 1000)},
		{9, 27214, 1000, on(9, 27214, 27214, 0, 27214)},
		{9, 0, greatest, on(9, 0, greatest, longest, 0)},
		{9, greatest, 0, on(9, greatest, greatest, 0, greatest)},
		{9, greatest, greatest, on(9, greatest, greatest, 0, greatest)},
		{9, greatest - 1, greatest, on(9, greatest-1, greatest, 33663, greatest-1)},
		{9, greatest, greatest - 1, on(9, greatest, greatest, 0, greatest)},
		{latest, greatest / 2, greatest, on(latest, greatest/2, greatest, 109438460, greatest/2)},
	} {
		e, err := epoch.Begin(c.at, c.now, c.most)
		if e != c.want || err != api.OK {
			t.Errorf("Begin(%d, %d, %d): %+v, %d, not %+v", c.at, c.now, c.most, e, err, c.want)
		}
	}
}

// P11.3: each of the three just outside what it may be, and at both edges, alone and beside others; an epoch that is not On stands beside the error.
func TestBeginErrors(t *testing.T) {
	for _, c := range []struct{ at, now, most int }{
		{-1, 5, 9},
		{latest + 1, 5, 9},
		{fewest, 5, 9},
		{most, 5, 9},
		{0, -1, 9},
		{0, greatest + 1, 9},
		{0, fewest, 9},
		{0, most, 9},
		{0, -1, greatest},
		{0, greatest + 1, greatest},
		{0, 5, -1},
		{0, 5, greatest + 1},
		{0, 5, fewest},
		{0, 5, most},
		{0, greatest, -1},
		{0, 0, greatest + 1},
		{-1, -1, -1},
		{latest, -1, -1},
		{latest, greatest + 1, greatest + 1},
		{latest + 1, greatest + 1, greatest + 1},
		{latest + 1, greatest, greatest + 1},
		{-1, greatest + 1, greatest},
		{fewest, fewest, fewest},
		{most, most, most},
		{0, most, fewest},
		{0, fewest, most},
	} {
		if e, err := epoch.Begin(c.at, c.now, c.most); e != zero || err != api.ErrField {
			t.Errorf("Begin(%d, %d, %d): %+v, %d", c.at, c.now, c.most, e, err)
		}
	}
}

// starts and windows are at both ends of what may be, within, and beyond.
func starts() []int {
	return []int{fewest, -1, 0, 1, 1000000, latest - 1, latest, latest + 1, most}
}

func windows() []int {
	return []int{fewest, -1, 0, 1, 26214, 10 * api.One, greatest - 1, greatest, greatest + 1, most}
}

// P11.3: all of those beside each other, as the words say it; what begins may be.
func TestBeginAsTheWords(t *testing.T) {
	good, wrong := 0, 0
	for _, at := range append(starts(), edges()...) {
		for _, now := range append(windows(), 2, 3, greatest/2) {
			for _, high := range append(windows(), 2, 3, greatest/2) {
				e, err := epoch.Begin(at, now, high)
				if want, wantErr := trueBegin(at, now, high); e != want || err != wantErr {
					t.Fatalf("Begin(%d, %d, %d): %+v, %d, not %+v, %d", at, now, high, e, err, want, wantErr)
				}
				if !epoch.Check(e) || e.On != (err == api.OK) {
					t.Fatalf("Begin(%d, %d, %d): %+v may not be", at, now, high, e)
				}
				if err == api.OK {
					good++
				} else {
					wrong++
				}
			}
		}
	}
	if good < 500 || wrong < 500 {
		t.Errorf("only %d that were taken, and %d that were not", good, wrong)
	}
}

// P11.3: each field just inside and just outside what it may be, and at both edges, On and not On.
func TestCheck(t *testing.T) {
	for _, c := range []struct {
		e    api.Epoch
		want bool
	}{
		{zero, true},
		{api.Epoch{Start: 1}, false},
		{api.Epoch{Start: -1}, false},
		{api.Epoch{First: 1}, false},
		{api.Epoch{First: -1}, false},
		{api.Epoch{Max: 1}, false},
		{api.Epoch{Max: -1}, false},
		{api.Epoch{K: 1}, false},
		{api.Epoch{K: -1}, false},
		{api.Epoch{Est: 1}, false},
		{api.Epoch{Est: -1}, false},
		{api.Epoch{Start: most}, false},
		{api.Epoch{First: fewest}, false},
		{api.Epoch{Est: most}, false},
		{api.Epoch{First: 5, Max: 5}, false},
		{api.Epoch{First: 5, Max: 5, Est: 5}, false},
		{api.Epoch{Max: 1, K: 33663}, false},
		{api.Epoch{Start: most, First: most, Max: most, K: most, Est: most}, false},

		{on(0, 0, 0, 0, 0), true},
		{on(1, 0, 0, 0, 0), true},
		{on(latest-1, 0, 0, 0, 0), true},
		{on(latest, 0, 0, 0, 0), true},
		{on(latest+1, 0, 0, 0, 0), false},
		{on(-1, 0, 0, 0, 0), false},
		{on(most, 0, 0, 0, 0), false},
		{on(fewest, 0, 0, 0, 0), false},

		{on(0, 1, 1, 0, 0), true},
		{on(0, greatest, greatest, 0, 0), true},
		{on(0, greatest+1, greatest+1, 0, 0), false},
		{on(0, -1, -1, 0, 0), false},
		{on(0, most, most, 0, 0), false},
		{on(0, fewest, fewest, 0, 0), false},
		{on(0, -1, 0, 33663, 0), false},
		{on(0, -1, 0, 0, 0), false},
		{on(0, fewest, 0, longest, 0), false},
		{on(0, fewest, most, 0, 0), false},
		{on(0, fewest, most, longest, 0), false},
		{on(0, most, fewest, 0, 0), false},
		{on(0, greatest, greatest+1, 33663, 0), false},
		{on(0, greatest, greatest+1, 0, 0), false},
		{on(0, 0, greatest, longest, 0), true},
		{on(0, 0, greatest+1, longest, 0), false},
		{on(0, 0, most, longest, 0), false},
		{on(0, 0, -1, 0, 0), false},
		{on(0, 1, 0, 0, 0), false},
		{on(0, 1, 0, 33663, 0), false},
		{on(0, greatest, 0, 0, 0), false},
		{on(0, greatest, greatest-1, 0, 0), false},
		{on(0, greatest-1, greatest, 33663, 0), true},

		{on(0, 0, 1, 33663, 0), true},
		{on(0, 0, 1, 33662, 0), false},
		{on(0, 0, 1, 33664, 0), false},
		{on(0, 0, 0, 1, 0), false},
		{on(0, 0, 0, -1, 0), false},
		{on(0, 5, 26219, 999994, 5), true},
		{on(0, 5, 26219, 999993, 5), false},
		{on(0, 5, 26219, 999995, 5), false},
		{on(0, 5, 26219, -999994, 5), false},
		{on(0, 5, 26219, 0, 5), false},
		{on(0, 0, greatest, longest-1, 0), false},
		{on(0, 0, greatest, longest+1, 0), false},
		{on(0, 0, greatest, most, 0), false},
		{on(0, 0, greatest, fewest, 0), false},

		{on(0, 5, 26219, 999994, 0), true},
		{on(0, 5, 26219, 999994, 1), true},
		{on(0, 5, 26219, 999994, 26219), true},
		{on(0, 5, 26219, 999994, 26220), true},
		{on(0, 5, 26219, 999994, greatest-1), true},
		{on(0, 5, 26219, 999994, greatest), true},
		{on(0, 5, 26219, 999994, greatest+1), false},
		{on(0, 5, 26219, 999994, -1), false},
		{on(0, 5, 26219, 999994, most), false},
		{on(0, 5, 26219, 999994, fewest), false},

		{on(latest, 0, greatest, longest, greatest), true},
		{on(latest+1, 0, greatest, longest, greatest), false},
		{on(latest, 0, greatest, longest, greatest+1), false},
		{on(latest+1, 0, greatest+1, longest, greatest+1), false},
		{on(most, most, most, most, most), false},
		{on(fewest, fewest, fewest, fewest, fewest), false},
		{on(most, most, most, 0, most), false},
		{on(fewest, fewest, fewest, 0, fewest), false},
	} {
		if is := epoch.Check(c.e); is != c.want {
			t.Errorf("Check(%+v): %v", c.e, is)
		}
	}
}

// all are all of starts and windows beside each other, On and not On, with a K as it must be, one less, one more, and at both edges.
func all(use func(e api.Epoch)) {
	for _, first := range windows() {
		for _, high := range windows() {
			k := 0
			if isWindow(first) && isWindow(high) {
				k = trueK(high - first)
			}
			for _, k := range []int{k, k - 1, k + 1, 0, fewest, most} {
				rest(on(0, first, high, k, 0), use)
			}
		}
	}
}

func rest(e api.Epoch, use func(e api.Epoch)) {
	for which := range 2 {
		e.On = which == 1
		for _, e.Start = range starts() {
			for _, e.Est = range windows() {
				use(e)
			}
		}
	}
}

// P11.3: all fields beside each other, as the words say it.
func TestCheckAsTheWords(t *testing.T) {
	may, not := 0, 0
	all(func(e api.Epoch) {
		want := mayBe(e)
		if is := epoch.Check(e); is != want {
			t.Fatalf("Check(%+v): %v", e, is)
		}
		if want {
			may++
		} else {
			not++
		}
	})
	if may < 600 || not < 1000 {
		t.Errorf("only %d that may be, and %d that may not", may, not)
	}
}

// P11.3: what is not On, by below 1, up to MaxTime and no further, and what may not be, too.
func TestShift(t *testing.T) {
	e := on(100, 5, 26219, 999994, 77)
	at := func(start int) api.Epoch {
		return on(start, 5, 26219, 999994, 77)
	}
	hand := api.Epoch{Start: 100, First: 5, Max: 3, K: 9, Est: -1}
	for _, c := range []struct {
		e    api.Epoch
		by   int
		want api.Epoch
	}{
		{e, fewest, e},
		{e, fewest + 1, e},
		{e, -101, e},
		{e, -100, e},
		{e, -1, e},
		{e, 0, e},
		{e, 1, at(101)},
		{e, 2, at(102)},
		{e, 1000000, at(1000100)},
		{e, latest - 101, at(latest - 1)},
		{e, latest - 100, at(latest)},
		{e, latest - 99, at(latest)},
		{e, latest, at(latest)},
		{e, most - 101, at(latest)},
		{e, most - 100, at(latest)},
		{e, most - 99, at(latest)},
		{e, most - 1, at(latest)},
		{e, most, at(latest)},
		{at(0), 0, at(0)},
		{at(0), 1, at(1)},
		{at(0), latest - 1, at(latest - 1)},
		{at(0), latest, at(latest)},
		{at(0), latest + 1, at(latest)},
		{at(0), most, at(latest)},
		{at(latest - 1), 1, at(latest)},
		{at(latest - 1), 2, at(latest)},
		{at(latest - 1), 0, at(latest - 1)},
		{at(latest), 0, at(latest)},
		{at(latest), 1, at(latest)},
		{at(latest), -1, at(latest)},
		{at(latest), most, at(latest)},

		{zero, 0, zero},
		{zero, 1, zero},
		{zero, -1, zero},
		{zero, latest, zero},
		{zero, most, zero},
		{zero, fewest, zero},
		{hand, 1, hand},
		{hand, most, hand},
		{hand, fewest, hand},

		{at(-1), 0, at(-1)},
		{at(-1), -1, at(-1)},
		{at(-1), 1, at(0)},
		{at(-10), 4, at(-6)},
		{at(-10), latest + 10, at(latest)},
		{at(-10), latest + 11, at(latest)},
		{at(fewest), 1, at(fewest + 1)},
		{at(fewest), most, at(-1)},
		{at(fewest), -1, at(fewest)},
		{at(fewest), fewest, at(fewest)},
		{at(latest + 1), 0, at(latest + 1)},
		{at(latest + 1), -1, at(latest + 1)},
		{at(latest + 1), 1, at(latest)},
		{at(most), 0, at(most)},
		{at(most), -1, at(most)},
		{at(most), 1, at(latest)},
		{at(most), most, at(latest)},
		{on(5, most, fewest, -3, most), 7, on(12, most, fewest, -3, most)},
		{on(5, -1, -2, 8, -4), latest, on(latest, -1, -2, 8, -4)},
	} {
		if n := epoch.Shift(c.e, c.by); n != c.want {
			t.Errorf("Shift(%+v, %d): %+v, not %+v", c.e, c.by, n, c.want)
		}
	}
}

// P11.3: all that may be and that may not, with each by, as the words say it; what may be still may.
func TestShiftAsTheWords(t *testing.T) {
	all(func(e api.Epoch) {
		l := []int{fewest, -1, 0, 1, latest - 1, latest, latest + 1, most}
		may := mayBe(e)
		for _, by := range l {
			n := epoch.Shift(e, by)
			if want := trueShift(e, by); n != want {
				t.Fatalf("Shift(%+v, %d): %+v, not %+v", e, by, n, want)
			}
			if may && !epoch.Check(n) {
				t.Fatalf("Shift(%+v, %d): %+v may not be", e, by, n)
			}
		}
	})
	for _, start := range edges() {
		for _, by := range edges() {
			e := on(start, 5, 26219, 999994, 5)
			if n := epoch.Shift(e, by); n != trueShift(e, by) {
				t.Fatalf("Shift(%+v, %d): %+v, not %+v", e, by, n, trueShift(e, by))
			}
		}
	}
}

// P11.4: K is not above the true one, and one more is: both cubes are held against 10^19 times the gap, over rows of neighbouring gaps.
func TestKIsTheTrueOneFromBelow(t *testing.T) {
	next := stirred(4)
	for range 60 {
		from := next(greatest)
		last := epoch.K(from - 1)
		for gap := from; gap < from+300; gap++ {
			k := epoch.K(gap)
			if !isK(gap, k) {
				t.Fatalf("K(%d): %d", gap, k)
			}
			if k < last {
				t.Fatalf("K(%d): %d, and of one less %d", gap, k, last)
			}
			last = k
		}
	}
}

// P11.4: of far gaps, and of those beyond both ends, the greater one has no lesser K.
func TestGreaterGapsHaveNoLesserK(t *testing.T) {
	next := stirred(44)
	l := edges()
	for range 300 {
		l = append(l, next(greatest), next(1<<20), -next(1<<62), next(1<<62))
	}
	for _, a := range l {
		for _, b := range l {
			if a < b && epoch.K(a) > epoch.K(b) {
				t.Fatalf("K(%d): %d, and K(%d): %d", a, epoch.K(a), b, epoch.K(b))
			}
		}
	}
}

// R3, R4: what is answered hangs on the arguments alone: the same each time, whatever was asked between.
func TestSameAnswerEachTime(t *testing.T) {
	e, _ := epoch.Begin(3, 1000, 27214)
	for range 20 {
		epoch.Shift(e, 5)
		epoch.Fast(9, 8)
		epoch.Check(on(1, 2, 3, 4, 5))
		if epoch.K(26214) != 999994 || e != on(3, 1000, 27214, 999994, 1000) {
			t.Fatalf("%d, %+v", epoch.K(26214), e)
		}
		if again, err := epoch.Begin(3, 1000, 27214); again != e || err != api.OK {
			t.Fatalf("%+v, %d", again, err)
		}
	}
}
