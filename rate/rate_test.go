package rate_test

import (
	"math"
	exact "math/big"
	"slices"
	"sync"
	"testing"

	"sawtooth/api"
	"sawtooth/rate"
	"sawtooth/rtt"
)

const (
	most     = math.MaxInt64
	fewest   = math.MinInt64
	one      = 1 << 16
	greatest = 1 << 36
	longest  = 65535
	second   = 1000000
	first    = 100000
	maxRtt   = 1 << 30
	maxTime  = 1 << 40
	highMean = 8 * maxRtt
	highFar  = 4 * maxRtt
)

func whole(n int) *exact.Int { return exact.NewInt(int64(n)) }

func product(l ...int) *exact.Int {
	p := whole(1)
	for _, n := range l {
		p.Mul(p, whole(n))
	}
	return p
}

// fromBelow and fromAbove are of a divisor above 0.
func fromBelow(n, by *exact.Int) *exact.Int { return new(exact.Int).Div(n, by) }

func fromAbove(n, by *exact.Int) *exact.Int {
	q, left := new(exact.Int).DivMod(n, by, new(exact.Int))
	if left.Sign() != 0 {
		q.Add(q, whole(1))
	}
	return q
}

func has(mean, far int) api.Rtt { return api.Rtt{Has: true, Mean: mean, Far: far} }

// known is a time there and back that all times were alike to.
func known(t int) api.Rtt { return has(8*t, 0) }

// trueTime is the time there and back that P17.2 takes, by the words of chapter 6.
func trueTime(r api.Rtt) int {
	if !r.Has || r.Mean < 8 || r.Mean > highMean || r.Far < 0 || r.Far > highFar {
		return first
	}
	return r.Mean / 8
}

// trueOf is P17.2 by its words, divided all at once.
func trueOf(window, seg int, r api.Rtt, slow bool) *exact.Int {
	if window < 0 {
		window = 0
	}
	if window > greatest {
		window = greatest
	}
	if seg < 1 {
		seg = 1
	}
	if seg > longest {
		seg = longest
	}
	gain := [2]int{5, 4}
	if slow {
		gain = [2]int{2, 1}
	}
	n := fromBelow(product(window, seg, second, gain[0]), product(one, gain[1], trueTime(r)))
	if n.Sign() < 1 {
		return whole(1)
	}
	return n
}

// trueSpan is P17.3 by its words.
func trueSpan(bytes, rate int) *exact.Int {
	if bytes < 0 {
		bytes = 0
	}
	if rate < 1 {
		rate = 1
	}
	t := fromAbove(product(bytes, second), whole(rate))
	if t.Cmp(whole(maxTime)) > 0 {
		return whole(maxTime)
	}
	return t
}

// around are some numbers, and both neighbours of each.
func around(l ...int) []int {
	var all []int
	for _, n := range l {
		all = append(all, n-1, n, n+1)
	}
	return all
}

// edges are those of 64 bits, with their neighbours.
func edges() []int {
	return []int{fewest, fewest + 1, fewest + 2, most - 2, most - 1, most}
}

// windows go from below 0 up to above the greatest one.
func windows() []int {
	l := around(-greatest, -one, 0, 100, one/2, one, 2*one, 10*one, 12345678, 1<<30, greatest/2, greatest, 2*greatest, 1<<62)
	return append(l, edges()...)
}

func segments() []int {
	l := around(-longest, 0, 2, 100, 1000, 1500, 9000, 32768, longest, 2*longest, greatest)
	return append(l, edges()...)
}

// times are what may be known, at its edges and between, what knows nothing, and what may not be.
func times() []api.Rtt {
	l := []api.Rtt{{}, {Mean: 8}, {Far: 1}, {Mean: 800000, Far: 400}, {Mean: -8}, {Mean: most, Far: most}}
	for _, mean := range append(around(-8, 0, 8, 16, 24, 56, 8*99, 8*1000, 8*12345, 8*first, 8*second, highMean-8, highMean, 2*highMean), edges()...) {
		for _, far := range []int{0, 1, highFar} {
			l = append(l, has(mean, far))
		}
	}
	for _, far := range append(around(-2, highFar+2), edges()...) {
		l = append(l, has(8*1000, far))
	}
	return l
}

func stirred(seed uint64) func(below int) int {
	return func(below int) int {
		seed = seed*6364136223846793005 + 1442695040888963407
		return int((seed >> 16) % uint64(below))
	}
}

// P17.1: 2 and 1 in slow start, else 5 and 4.
func TestGain(t *testing.T) {
	if a, b := rate.Gain(true); a != 2 || b != 1 {
		t.Errorf("slow: %d, %d", a, b)
	}
	if a, b := rate.Gain(false); a != 5 || b != 4 {
		t.Errorf("not: %d, %d", a, b)
	}
}

// P17.1: the time that is taken, as long as none is known.
func TestFirst(t *testing.T) {
	if n := rate.First(); n != 100000 {
		t.Error(n)
	}
}

// P17.2: the chapter's example.
func TestExample(t *testing.T) {
	for _, r := range []api.Rtt{{}, has(8*100000, 4*50000), known(100000)} {
		if n := rate.Of(10*one, 1500, r, true); n != 300000 {
			t.Errorf("%v: %d", r, n)
		}
	}
}

// P17.2: in slow start, and not.
func TestOf(t *testing.T) {
	for _, c := range []struct {
		window, seg int
		r           api.Rtt
		slow        bool
		want        int
	}{
		{10 * one, 1500, known(100000), true, 300000},
		{10 * one, 1500, known(100000), false, 187500},
		{10 * one, 1000, known(second), false, 12500},
		{10 * one, 1000, known(second), true, 20000},
		{one, 1000, known(1000), false, 1250000},
		{one - 1, 1000, known(1000), false, 1249980},
		{one + 1, 1000, known(1000), false, 1250019},
		{one, 1, known(3), true, 666666},
		{one, 1, known(3), false, 416666},
		{one, 1, known(7), true, 285714},
		{one, 1, known(7), false, 178571},
		{greatest, longest, known(1), true, 137436856320000000},
		{greatest, longest, known(1), false, 85898035200000000},
		{greatest, longest, known(maxRtt), true, 127998046},
		{greatest, longest, known(maxRtt), false, 79998779},
		{greatest, longest, api.Rtt{}, true, 1374368563200},
	} {
		if n := rate.Of(c.window, c.seg, c.r, c.slow); n != c.want {
			t.Errorf("%+v: %d", c, n)
		}
	}
}

// P17.2: a window below 0 counts as 0, and one above the greatest as that.
func TestOfWindowsBeyond(t *testing.T) {
	for _, slow := range []bool{false, true} {
		for _, window := range []int{-1, -2, -one, -greatest, fewest, fewest + 1} {
			if n := rate.Of(window, longest, known(1), slow); n != 1 {
				t.Errorf("%d, %v: %d", window, slow, n)
			}
		}
		want := rate.Of(greatest, longest, known(1), slow)
		if n := rate.Of(greatest-1, longest, known(1), slow); n >= want {
			t.Errorf("just below, %v: %d", slow, n)
		}
		for _, window := range []int{greatest + 1, greatest + 2, 2 * greatest, 1 << 62, most - 1, most} {
			if n := rate.Of(window, longest, known(1), slow); n != want {
				t.Errorf("%d, %v: %d", window, slow, n)
			}
		}
	}
}

// P17.2: a segment below 1 counts as 1, and one above 65535 as that.
func TestOfSegmentsBeyond(t *testing.T) {
	for _, slow := range []bool{false, true} {
		least := rate.Of(greatest, 1, known(1), slow)
		for _, seg := range []int{0, -1, -2, -longest, fewest, fewest + 1} {
			if n := rate.Of(greatest, seg, known(1), slow); n != least {
				t.Errorf("%d, %v: %d", seg, slow, n)
			}
		}
		if n := rate.Of(greatest, 2, known(1), slow); n != 2*least {
			t.Errorf("two, %v: %d", slow, n)
		}
		if n := rate.Of(greatest, longest-1, known(1), slow); n != (longest-1)*least {
			t.Errorf("just below, %v: %d", slow, n)
		}
		for _, seg := range []int{longest, longest + 1, longest + 2, 2 * longest, 1 << 62, most - 1, most} {
			if n := rate.Of(greatest, seg, known(1), slow); n != longest*least {
				t.Errorf("%d, %v: %d", seg, slow, n)
			}
		}
	}
}

// P17.2: windows and segments at both edges of 64 bits beside each other.
func TestOfEdgesBesideEachOther(t *testing.T) {
	for _, c := range []struct {
		window, seg int
		slow        bool
		want        int
	}{
		{fewest, fewest, true, 1},
		{fewest, fewest, false, 1},
		{fewest, most, true, 1},
		{fewest, most, false, 1},
		{most, fewest, true, 20971520},
		{most, fewest, false, 13107200},
		{most, most, true, 1374368563200},
		{most, most, false, 858980352000},
	} {
		if n := rate.Of(c.window, c.seg, api.Rtt{}, c.slow); n != c.want {
			t.Errorf("%+v: %d", c, n)
		}
	}
}

// P17.2: without a time that is known, or with one that may not be, it is as fast as with First.
func TestOfWithoutATime(t *testing.T) {
	for _, slow := range []bool{false, true} {
		want := rate.Of(10*one, 1500, known(first), slow)
		for _, r := range []api.Rtt{
			{}, {Mean: 8}, {Mean: 8000}, {Far: 4}, {Mean: highMean}, {Mean: fewest}, {Mean: most, Far: most},
			has(0, 0), has(1, 0), has(7, 0), has(-1, 0), has(-8, 0), has(highMean+1, 0), has(highMean+8, 0),
			has(fewest, 0), has(fewest+1, 0), has(most-1, 0), has(most, 0),
			has(8000, -1), has(8000, highFar+1), has(8000, fewest), has(8000, most), has(most, most), has(fewest, fewest),
		} {
			if n := rate.Of(10*one, 1500, r, slow); n != want {
				t.Errorf("%v, %v: %d", r, slow, n)
			}
		}
	}
}

// P17.2: what may be is taken up to its edges, and its mean by whole millionths of a second.
func TestOfWithATime(t *testing.T) {
	for _, c := range []struct {
		r    api.Rtt
		want int
	}{
		{has(8, 0), 1250000000},
		{has(15, 0), 1250000000},
		{has(16, 0), 625000000},
		{has(16, highFar), 625000000},
		{has(8*first-1, 0), 12500},
		{has(8*first, 1), 12500},
		{has(8*first+7, 1), 12500},
		{has(8*first+8, 1), 12499},
		{has(highMean-1, highFar), 1},
		{has(highMean, highFar), 1},
		{has(highMean, 0), 1},
	} {
		if n := rate.Of(one, 1000, c.r, false); n != c.want {
			t.Errorf("%v: %d", c.r, n)
		}
	}
}

// P17.2: 1 at least, and from below just above that.
func TestOfOneAtLeast(t *testing.T) {
	for _, c := range []struct {
		window, seg, time int
		slow              bool
		want              int
	}{
		{0, longest, 1, true, 1},
		{0, 0, 1, false, 1},
		{1, 1, maxRtt, false, 1},
		{1, 1, maxRtt, true, 1},
		{one, 1, 2 * second, true, 1},
		{one - 1, 1, 2 * second, true, 1},
		{one, 1, 2*second + 1, true, 1},
		{2 * one, 1, 2 * second, true, 2},
		{2*one - 1, 1, 2 * second, true, 1},
		{one, 1, second * 5 / 4, false, 1},
		{one, 1, second*5/4 + 1, false, 1},
		{one - 1, 1, second * 5 / 4, false, 1},
		{one, 1, second * 5 / 8, false, 2},
		{one, 1, second*5/8 + 1, false, 1},
	} {
		if n := rate.Of(c.window, c.seg, known(c.time), c.slow); n != c.want {
			t.Errorf("%+v: %d", c, n)
		}
	}
}

// P17.2: divided all at once: were the window made whole segments first, all of these would be less.
func TestOfAllAtOnce(t *testing.T) {
	for _, c := range []struct {
		window, seg, time int
		slow              bool
		want              int
	}{
		{one + one/2, 1, 1, false, 1875000},
		{one / 2, 1, 1, true, 1000000},
		{3*one - 1, 1, 3, true, 1999989},
		{one/3 + 1, 3, 1000, false, 1250},
		{one + 1, 1, 7, true, 285718},
		{5*one - 1, 999, 7, false, 891961563},
	} {
		if n := rate.Of(c.window, c.seg, known(c.time), c.slow); n != c.want {
			t.Errorf("%+v: %d, and by the words %v", c, n, trueOf(c.window, c.seg, known(c.time), c.slow))
		}
	}
}

// P17.2: all windows, segments and times beside each other, as the chapter's words say in true numbers.
func TestOfAsTheWords(t *testing.T) {
	for _, window := range windows() {
		for _, seg := range segments() {
			for _, r := range times() {
				for _, slow := range []bool{false, true} {
					if n := rate.Of(window, seg, r, slow); whole(n).Cmp(trueOf(window, seg, r, slow)) != 0 {
						t.Fatalf("%d, %d, %v, %v: %d", window, seg, r, slow, n)
					}
				}
			}
		}
	}
}

// P17.2: rows of stirred windows, segments and times of all sizes.
func TestOfOfAllSizes(t *testing.T) {
	next := stirred(17)
	for range 40000 {
		window := next(1 << next(37))
		seg := next(1 << next(17))
		r := has(next(1<<next(34)), next(1<<next(33)))
		slow := next(2) == 0
		if n := rate.Of(window, seg, r, slow); whole(n).Cmp(trueOf(window, seg, r, slow)) != 0 {
			t.Fatalf("%d, %d, %v, %v: %d", window, seg, r, slow, n)
		}
	}
}

// P17.3: what divides evenly, and what leaves a little, which counts as one more.
func TestSpan(t *testing.T) {
	for _, c := range []struct{ bytes, rate, want int }{
		{0, 1, 0},
		{0, most, 0},
		{1, 1, second},
		{1, second, 1},
		{1, second - 1, 2},
		{1, second + 1, 1},
		{1, 2 * second, 1},
		{1, 2, second / 2},
		{1, 3, 333334},
		{2, 3, 666667},
		{3, 3, second},
		{1, 7, 142858},
		{7, 7, second},
		{1500, 300000, 5000},
		{1501, 300000, 5004},
		{15000, 300000, 50000},
		{1, most, 1},
		{most, most, second},
		{most - 1, most, second},
		{most, most - 1, second + 1},
		{1 << 62, most, second/2 + 1},
	} {
		if n := rate.Span(c.bytes, c.rate); n != c.want {
			t.Errorf("%+v: %d", c, n)
		}
	}
}

// P17.3: bytes below 0 count as 0, and rates below 1 as 1.
func TestSpanBeyond(t *testing.T) {
	for _, bytes := range []int{-1, -2, -second, fewest, fewest + 1} {
		for _, by := range []int{fewest, -1, 0, 1, 2, second, most} {
			if n := rate.Span(bytes, by); n != 0 {
				t.Errorf("%d, %d: %d", bytes, by, n)
			}
		}
	}
	for _, by := range []int{0, -1, -2, -second, fewest, fewest + 1} {
		for _, bytes := range []int{0, 1, 2, 1000, 1 << 20, most} {
			if n := rate.Span(bytes, by); n != min(bytes, maxTime/second+1)*second && n != maxTime {
				t.Errorf("%d, %d: %d", bytes, by, n)
			}
			if n := rate.Span(bytes, by); n != rate.Span(bytes, 1) {
				t.Errorf("%d, %d: %d", bytes, by, n)
			}
		}
	}
}

// P17.3: MaxTime at most: just below it, at it, and far above, where the part is none of 64 bits.
func TestSpanOfMaxTime(t *testing.T) {
	for _, c := range []struct{ bytes, rate, want int }{
		{1099511, 1, 1099511000000},
		{1099512, 1, maxTime},
		{1099511627776, second, maxTime},
		{1099511627775, second, maxTime - 1},
		{1099511627777, second, maxTime},
		{1099511627776, second - 1, maxTime},
		{1099511627776, second + 1, 1099510528266},
		{maxTime / 64, second / 64, maxTime},
		{maxTime/64 - 1, second / 64, maxTime - 64},
		{9223372036854, 1, maxTime},
		{9223372036855, 1, maxTime},
		{most / 2, 1, maxTime},
		{most - 1, 1, maxTime},
		{most, 1, maxTime},
		{most, 0, maxTime},
		{most, fewest, maxTime},
		{most, second, maxTime},
		{most, second - 1, maxTime},
		{most, 1 << 40, maxTime},
	} {
		if n := rate.Span(c.bytes, c.rate); n != c.want {
			t.Errorf("%+v: %d", c, n)
		}
	}
}

// rates are those that Of may tell, those about which a span turns, and both edges of 64 bits.
func rates() []int {
	l := around(-greatest, -1, 2, 7, 64, 1000, second/64, second, 300000, 1<<30, maxTime, 1<<56, 1<<62)
	return append(l, edges()...)
}

func bytes() []int {
	l := around(-greatest, -1, 2, 7, 64, 1000, 1500, second, 1099511, 1<<30, maxTime/64, maxTime, 9223372036854, 1<<56, 1<<62)
	return append(l, edges()...)
}

// P17.3: all bytes and rates beside each other, as the chapter's words say in true numbers.
func TestSpanAsTheWords(t *testing.T) {
	for _, n := range bytes() {
		for _, by := range rates() {
			if got := rate.Span(n, by); whole(got).Cmp(trueSpan(n, by)) != 0 {
				t.Fatalf("%d, %d: %d", n, by, got)
			}
		}
	}
}

// P17.3: rows of stirred bytes and rates of all sizes.
func TestSpanOfAllSizes(t *testing.T) {
	next := stirred(3)
	for range 40000 {
		n, by := next(1<<next(63)), next(1<<next(63))
		if got := rate.Span(n, by); whole(got).Cmp(trueSpan(n, by)) != 0 {
			t.Fatalf("%d, %d: %d", n, by, got)
		}
	}
}

// P17.3: around what a rate lets go in just MaxTime.
func TestSpanAroundMaxTime(t *testing.T) {
	next := stirred(40)
	for range 20000 {
		by := 1 + next(1<<next(43))
		at := fromBelow(product(by, maxTime), whole(second))
		for _, n := range around(int(at.Int64())) {
			if got := rate.Span(n, by); whole(got).Cmp(trueSpan(n, by)) != 0 {
				t.Fatalf("%d, %d: %d", n, by, got)
			}
		}
	}
}

// P17.4: a greater window goes no less fast.
func TestGreaterWindowsGoNoLessFast(t *testing.T) {
	sorted := windows()
	slices.Sort(sorted)
	for _, seg := range []int{fewest, 1, 1000, 1500, longest, most} {
		for _, r := range times() {
			for _, slow := range []bool{false, true} {
				last := 1
				for _, window := range sorted {
					n := rate.Of(window, seg, r, slow)
					if n < last {
						t.Fatalf("%d, %d, %v, %v: %d behind %d", window, seg, r, slow, n, last)
					}
					last = n
				}
			}
		}
	}
}

// P17.4: nor does any of many neighbours.
func TestNeighbouringWindowsGoNoLessFast(t *testing.T) {
	for _, from := range []int{-500, one - 500, 10*one - 500, greatest - 500} {
		for _, r := range []api.Rtt{{}, known(1), known(3), known(first), known(maxRtt)} {
			for _, slow := range []bool{false, true} {
				last := 1
				for window := from; window < from+1000; window++ {
					n := rate.Of(window, 1500, r, slow)
					if n < last {
						t.Fatalf("%d, %v, %v: %d behind %d", window, r, slow, n, last)
					}
					last = n
				}
			}
		}
	}
}

// P17.4: a shorter time goes no less fast, whatever is known of how far it strays.
func TestShorterTimesGoNoLessFast(t *testing.T) {
	for _, window := range windows() {
		for _, seg := range []int{fewest, 1, 1000, longest, most} {
			for _, slow := range []bool{false, true} {
				last := most
				for _, mean := range append(around(9, 16, 24, 56, 8*99, 8*1000, 8*12345, 8*first, 8*second, highMean-8), highMean) {
					n := rate.Of(window, seg, has(mean, mean/4), slow)
					if n > last {
						t.Fatalf("%d, %d, %d, %v: %d behind %d", window, seg, mean, slow, n, last)
					}
					last = n
				}
			}
		}
	}
}

// P17.4: nor does any of many neighbours.
func TestNeighbouringTimesGoNoLessFast(t *testing.T) {
	for _, from := range []int{8, 8*first - 500, highMean - 999} {
		for _, window := range []int{1, one, 10 * one, greatest} {
			for _, slow := range []bool{false, true} {
				last := most
				for mean := from; mean < from+1000; mean++ {
					n := rate.Of(window, 1500, has(mean, 0), slow)
					if n > last {
						t.Fatalf("%d, %d, %v: %d behind %d", window, mean, slow, n, last)
					}
					last = n
				}
			}
		}
	}
}

// spanHolds tells whether, in a span's time, all bytes go at that rate, and in one millionth less they do not.
func spanHolds(n, by int) bool {
	span := rate.Span(n, by)
	all := product(n, second)
	return product(by, span).Cmp(all) >= 0 && product(by, span-1).Cmp(all) < 0
}

// P17.4: what goes in a span's time is all, and in one millionth less it is not.
func TestAllGoesInASpan(t *testing.T) {
	for _, n := range bytes() {
		for _, by := range rates() {
			if n >= 0 && by >= 1 && rate.Span(n, by) < maxTime && !spanHolds(n, by) {
				t.Fatalf("%d, %d: %d", n, by, rate.Span(n, by))
			}
		}
	}
}

// P17.4: so it is of all bytes and rates that an event, and Of, may tell.
func TestAllGoesInASpanOfAllSizes(t *testing.T) {
	next := stirred(4)
	held := 0
	for range 40000 {
		n, by := next(1<<next(63)), 1+next(1<<next(62))
		if rate.Span(n, by) == maxTime {
			continue
		}
		held++
		if !spanHolds(n, by) {
			t.Fatalf("%d, %d: %d", n, by, rate.Span(n, by))
		}
	}
	if held < 10000 {
		t.Error(held)
	}
}

// P17.4: and of few bytes at small rates, all of them.
func TestAllGoesInASpanOfFew(t *testing.T) {
	for n := range 200 {
		for by := 1; by < 200; by++ {
			if !spanHolds(n, by) {
				t.Fatalf("%d, %d: %d", n, by, rate.Span(n, by))
			}
		}
	}
}

// P17.4 and P17.3: in the time of all of a window, at its own rate, no less than the window goes, and it takes no longer than there and back.
func TestSpanOfAWindow(t *testing.T) {
	for _, segs := range []int{2, 10, 1000, api.MaxSegs} {
		for _, time := range []int{1000, first, second, maxRtt} {
			for _, slow := range []bool{false, true} {
				by := rate.Of(segs*one, 1500, known(time), slow)
				span := rate.Span(segs*1500, by)
				if span > time || !spanHolds(segs*1500, by) {
					t.Errorf("%d, %d, %v: %d", segs, time, slow, span)
				}
			}
		}
	}
}

// P17.2, with chapter 6: a mean that was sampled, not made by hand.
func TestOfSampled(t *testing.T) {
	r := api.Rtt{}
	for _, time := range []int{100000, 200000, 50000, 1, maxRtt, 300000} {
		var err api.Errno
		if r, err = rtt.Sample(r, time); err != api.OK {
			t.Fatal(err)
		}
		for _, slow := range []bool{false, true} {
			if n := rate.Of(10*one, 1500, r, slow); whole(n).Cmp(trueOf(10*one, 1500, r, slow)) != 0 {
				t.Errorf("%v, %v: %d", r, slow, n)
			}
		}
	}
}

// R4: what is told hangs on what is given alone, beside other calls too.
func TestCallsBesideEachOther(t *testing.T) {
	var hands sync.WaitGroup
	for seed := range uint64(8) {
		hands.Add(1)
		go func() {
			defer hands.Done()
			next := stirred(seed)
			for range 2000 {
				window, seg, r, slow := next(2*greatest), next(2*longest), known(next(maxRtt)), next(2) == 0
				by := rate.Of(window, seg, r, slow)
				if whole(by).Cmp(trueOf(window, seg, r, slow)) != 0 {
					t.Errorf("%d, %d, %v, %v: %d", window, seg, r, slow, by)
				}
				if n := rate.Span(seg, by); whole(n).Cmp(trueSpan(seg, by)) != 0 {
					t.Errorf("%d, %d: %d", seg, by, n)
				}
			}
		}()
	}
	hands.Wait()
}
