package cut_test

import (
	"math"
	exact "math/big"
	"sync"
	"testing"

	"sawtooth/api"
	"sawtooth/cut"
	"sawtooth/epoch"
)

const (
	most     = math.MaxInt64
	fewest   = math.MinInt64
	one      = api.One
	two      = 2 * api.One
	greatest = api.MaxSegs * api.One

	// justTwo is the least window of whose 7 tenths two segments are left, from below.
	justTwo = 187246
	// losses is how many bring the greatest window to two segments.
	losses = 37
)

func whole(n int) *exact.Int { return exact.NewInt(int64(n)) }

func lesser(a, b *exact.Int) *exact.Int {
	if a.Cmp(b) <= 0 {
		return a
	}
	return b
}

func greater(a, b *exact.Int) *exact.Int {
	if a.Cmp(b) >= 0 {
		return a
	}
	return b
}

func asInt(n *exact.Int) int { return int(n.Int64()) }

// given is a window as the chapter's words take it.
func given(n int) *exact.Int { return lesser(greater(whole(n), whole(1<<17)), whole(1<<36)) }

// partOf is a part of n, in true numbers, of which Div is from below.
func partOf(n *exact.Int, first, second int) *exact.Int {
	product := new(exact.Int).Mul(n, whole(first))
	return product.Div(product, whole(second))
}

// leastOf is P15.1's Least by its words, of a window as it is taken.
func leastOf(n *exact.Int) *exact.Int { return greater(partOf(n, 7, 10), whole(1<<17)) }

func trueLeast(window int) int { return asInt(leastOf(given(window))) }

// trueNext is chapter 11's Fast by its words, of the window as it is taken.
func trueNext(window, last int) int {
	now := given(window)
	if now.Cmp(whole(last)) >= 0 {
		return asInt(now)
	}
	return asInt(partOf(now, 17, 20))
}

// trueMany is P15.3 by its words, and stops where nothing changes any more.
func trueMany(window, n int) int {
	w := given(window)
	for ; n >= 1; n-- {
		less := leastOf(w)
		if less.Cmp(w) == 0 {
			break
		}
		w = less
	}
	return asInt(w)
}

// stirred is a row that looks like chance, and is the same each time.
func stirred(seed uint64) func(below int) int {
	return func(below int) int {
		seed = seed*6364136223846793005 + 1442695040888963407
		return int((seed >> 20) % uint64(below))
	}
}

// around are some numbers, and both neighbours of each.
func around(l ...int) []int {
	var all []int
	for _, n := range l {
		all = append(all, n-1, n, n+1)
	}
	return all
}

// near are numbers around n, on both sides, where these do not go round.
func near(n int) []int {
	l := []int{n}
	for by := 1; by <= 2; by++ {
		if n >= fewest+by {
			l = append(l, n-by)
		}
		if n <= most-by {
			l = append(l, n+by)
		}
	}
	return l
}

// edges are around 0, one and two segments, what leaves these, the greatest window, what it leaves, and its tenfold, on both sides of 0, and up to both edges of 64 bits.
func edges() []int {
	l := around(0, one, two, justTwo, 10*one, greatest/10*7, greatest, greatest/7*10, 2*greatest, 10*greatest, 1<<62, most/7, most/10, -two, -greatest, -1<<62, fewest/7, fewest/10)
	return append(l, 3, 7, -7, most-1, most, fewest, fewest+1)
}

// windows are those that lie in their bounds: at both ends, within, even and uneven, and of each digit at the end.
func windows() []int {
	l := []int{two, two + 1, two + 2, justTwo - 2, justTwo - 1, justTwo, justTwo + 1, justTwo + 2, 3 * one, 10*one - 1, 10 * one, 10*one + 1, greatest / 2, greatest - two, greatest - 2, greatest - 1, greatest}
	for digit := range 10 {
		l = append(l, 200000+digit, 7000000+digit, 68719470000+digit)
	}
	return l
}

// P15.1: Least at each edge that the chapter names, and within.
func TestLeast(t *testing.T) {
	for _, c := range []struct{ window, want int }{
		{10 * one, 7 * one},
		{20 * one, 14 * one},

		{fewest, two},
		{fewest + 1, two},
		{-greatest, two},
		{-10 * one, two},
		{-two, two},
		{-1, two},
		{0, two},
		{1, two},
		{one, two},
		{two - 1, two},
		{two, two},
		{two + 1, two},
		{two + 2, two},

		{justTwo - 2, two},
		{justTwo - 1, two},
		{justTwo, two},
		{justTwo + 1, two},
		{justTwo + 2, two + 1},
		{justTwo + 3, two + 2},
		{justTwo + 4, two + 3},
		{187245, 131072},
		{187246, 131072},
		{187247, 131072},
		{187248, 131073},

		{200000, 140000},
		{200001, 140000},
		{200002, 140001},
		{200003, 140002},
		{200004, 140002},
		{200005, 140003},
		{200006, 140004},
		{200007, 140004},
		{200008, 140005},
		{200009, 140006},
		{200010, 140007},

		{greatest - 2, 48103633713},
		{greatest - 1, 48103633714},
		{greatest, 48103633715},
		{greatest + 1, 48103633715},
		{greatest + 2, 48103633715},
		{greatest + 10, 48103633715},
		{2 * greatest, 48103633715},
		{1 << 62, 48103633715},
		{most - 1, 48103633715},
		{most, 48103633715},
	} {
		if trueLeast(c.window) != c.want {
			t.Errorf("%d is not what %d tells", c.want, c.window)
		}
		holdLeast(t, c.window)
	}
}

func holdLeast(t *testing.T, window int) {
	t.Helper()
	if n, want := cut.Least(window), trueLeast(window); n != want {
		t.Fatalf("Least(%d): %d, not %d", window, n, want)
	}
}

// P15.1: all edges, each window's neighbours, and short and long windows, in true numbers.
func TestLeastAsTheTrueNumber(t *testing.T) {
	for _, window := range append(edges(), windows()...) {
		for _, w := range near(window) {
			holdLeast(t, w)
		}
	}
	next := stirred(151)
	for range 20000 {
		holdLeast(t, two+next(greatest-two+1))
		holdLeast(t, next(40*one))
		holdLeast(t, justTwo-50+next(100))
		holdLeast(t, greatest-50+next(100))
		holdLeast(t, next(1<<62)-1<<61)
	}
}

// P15.1: windows whose 7 tenths leave each of no tenth to 9 tenths: all of them from below.
func TestLeastLeavesEachTenth(t *testing.T) {
	for _, from := range []int{200000, 655360, 7000003, greatest/2 + 1, greatest - 9} {
		seen := map[int]bool{}
		for window := from; window < from+10; window++ {
			over := window*7 - cut.Least(window)*10
			if over < 0 || over > 9 {
				t.Fatalf("Least(%d): %d tenths are left over", window, over)
			}
			seen[over] = true
		}
		if len(seen) != 10 {
			t.Fatalf("from %d on %d kinds of tenths are left over", from, len(seen))
		}
	}
}

// P15.1: just below, at and above the least window of which so much is left.
func TestLeastWhereItGrows(t *testing.T) {
	next := stirred(152)
	l := []int{two + 1, two + 2, two + 3, two + 10, 7 * one, 7*one + 1, greatest / 2, greatest / 10 * 7}
	for range 5000 {
		l = append(l, two+1+next(greatest/10*7-two), two+1+next(40*one))
	}
	for _, n := range l {
		window := (n*10 + 6) / 7
		before, at := cut.Least(window-1), cut.Least(window)
		if before != n-1 || at != n {
			t.Fatalf("%d leaves %d, and one more %d, for %d", window-1, before, at, n)
		}
	}
}

// pairs are a window, what went ahead of it, and what both calls tell: least, the second of Loss, and the third of Timeout, is next.
func pairs() []struct{ window, last, least, next int } {
	return []struct{ window, last, least, next int }{
		{10 * one, 12 * one, 7 * one, 8*one + one/2},
		{10 * one, 10*one + 1, 7 * one, 8*one + one/2},
		{10 * one, 10 * one, 7 * one, 10 * one},
		{10 * one, 10*one - 1, 7 * one, 10 * one},
		{10 * one, 5 * one, 7 * one, 10 * one},
		{10 * one, two, 7 * one, 10 * one},
		{10 * one, 1, 7 * one, 10 * one},
		{10 * one, 0, 7 * one, 10 * one},
		{10 * one, -1, 7 * one, 10 * one},
		{10 * one, -12 * one, 7 * one, 10 * one},
		{10 * one, fewest + 1, 7 * one, 10 * one},
		{10 * one, fewest, 7 * one, 10 * one},
		{10 * one, greatest, 7 * one, 8*one + one/2},
		{10 * one, greatest + 1, 7 * one, 8*one + one/2},
		{10 * one, 1 << 62, 7 * one, 8*one + one/2},
		{10 * one, most - 1, 7 * one, 8*one + one/2},
		{10 * one, most, 7 * one, 8*one + one/2},
		{10*one + 1, 12 * one, 7 * one, 8*one + one/2},
		{10*one + 2, 12 * one, 7*one + 1, 8*one + one/2 + 1},
		{10*one - 1, 12 * one, 7*one - 1, 8*one + one/2 - 1},
		{200000, 200001, 140000, 170000},
		{200001, 200002, 140000, 170000},
		{200002, 200003, 140001, 170001},
		{200019, 200020, 140013, 170016},

		{two, two + 1, two, 111411},
		{two, two, two, two},
		{two, two - 1, two, two},
		{two, 0, two, two},
		{two, -1, two, two},
		{two, most, two, 111411},
		{two + 1, two + 1, two, two + 1},
		{two + 1, two + 2, two, 111412},
		{two - 1, two - 1, two, two},
		{two - 1, two, two, two},
		{two - 1, two + 1, two, 111411},
		{0, 0, two, two},
		{0, 1, two, two},
		{0, one, two, two},
		{0, two, two, two},
		{0, two + 1, two, 111411},
		{-1, 0, two, two},
		{-1, two, two, two},
		{-1, 12 * one, two, 111411},
		{-10 * one, 12 * one, two, 111411},
		{-10 * one, -5 * one, two, two},
		{fewest, fewest, two, two},
		{fewest, -1, two, two},
		{fewest, two, two, two},
		{fewest, two + 1, two, 111411},
		{fewest, most, two, 111411},

		{justTwo, justTwo, two, justTwo},
		{justTwo, justTwo + 1, two, 159159},
		{justTwo + 2, justTwo + 3, two + 1, 159160},

		{greatest - 1, greatest - 1, 48103633714, greatest - 1},
		{greatest - 1, greatest, 48103633714, 58411555224},
		{greatest, greatest - 1, 48103633715, greatest},
		{greatest, greatest, 48103633715, greatest},
		{greatest, greatest + 1, 48103633715, 58411555225},
		{greatest, most, 48103633715, 58411555225},
		{greatest, fewest, 48103633715, greatest},
		{greatest + 1, greatest - 1, 48103633715, greatest},
		{greatest + 1, greatest, 48103633715, greatest},
		{greatest + 1, greatest + 1, 48103633715, 58411555225},
		{greatest + 1, greatest + 2, 48103633715, 58411555225},
		{2 * greatest, greatest, 48103633715, greatest},
		{2 * greatest, greatest + 1, 48103633715, 58411555225},
		{2 * greatest, 2 * greatest, 48103633715, 58411555225},
		{most, fewest, 48103633715, greatest},
		{most, greatest, 48103633715, greatest},
		{most, greatest + 1, 48103633715, 58411555225},
		{most, most - 1, 48103633715, 58411555225},
		{most, most, 48103633715, 58411555225},
	}
}

// P15.1: Loss of last below, at and above the window, below 0, and at both edges, of windows within and out of their bounds.
func TestLoss(t *testing.T) {
	for _, c := range pairs() {
		if least, next := cut.Loss(c.window, c.last); least != c.least || next != c.next {
			t.Errorf("Loss(%d, %d): %d, %d, not %d, %d", c.window, c.last, least, next, c.least, c.next)
		}
		holdBoth(t, c.window, c.last)
	}
}

// P15.2: Timeout of the same, all three answers.
func TestTimeout(t *testing.T) {
	for _, c := range pairs() {
		if n, least, next := cut.Timeout(c.window, c.last); n != two || least != c.least || next != c.next {
			t.Errorf("Timeout(%d, %d): %d, %d, %d, not %d, %d, %d", c.window, c.last, n, least, next, two, c.least, c.next)
		}
		holdBoth(t, c.window, c.last)
	}
}

// holdBoth holds Loss and Timeout against the chapter's words, against Least, and against epoch.Fast of last and the window as one that is given.
func holdBoth(t *testing.T, window, last int) {
	t.Helper()
	least, next := trueLeast(window), trueNext(window, last)
	if n, up := cut.Loss(window, last); n != least || up != next {
		t.Fatalf("Loss(%d, %d): %d, %d, not %d, %d", window, last, n, up, least, next)
	}
	if n, end, up := cut.Timeout(window, last); n != 1<<17 || end != least || up != next {
		t.Fatalf("Timeout(%d, %d): %d, %d, %d, not %d, %d, %d", window, last, n, end, up, 1<<17, least, next)
	}
	if n := cut.Least(window); n != least {
		t.Fatalf("Least(%d): %d, not %d", window, n, least)
	}
	if up := epoch.Fast(last, asInt(given(window))); up != next {
		t.Fatalf("Fast(%d, %d): %d, not %d", last, window, up, next)
	}
}

// P15.1, P15.2: all edges of both beside each other, last around the window as it was given and as it is taken, in true numbers.
func TestLossAndTimeoutAsTheTrueNumbers(t *testing.T) {
	l := append(edges(), windows()...)
	for _, window := range l {
		for _, last := range append(append(near(window), near(asInt(given(window)))...), l...) {
			holdBoth(t, window, last)
		}
	}
}

// P15.1, P15.2: last is asked of the window as it is taken: between both it is not above it, below two segments, and above it, beyond the greatest window.
func TestLastBetweenGivenAndTaken(t *testing.T) {
	for window := -3; window < 3; window++ {
		for _, last := range []int{window, window + 1, 5, one, two - 1, two} {
			if _, next := cut.Loss(window, last); next != two {
				t.Fatalf("Loss(%d, %d): %d", window, last, next)
			}
			if _, _, next := cut.Timeout(window, last); next != two {
				t.Fatalf("Timeout(%d, %d): %d", window, last, next)
			}
		}
	}
	for _, last := range around(greatest + 5) {
		for _, window := range []int{greatest + 7, 2 * greatest, most} {
			if _, next := cut.Loss(window, last); next != 58411555225 {
				t.Fatalf("Loss(%d, %d): %d", window, last, next)
			}
			if _, _, next := cut.Timeout(window, last); next != 58411555225 {
				t.Fatalf("Timeout(%d, %d): %d", window, last, next)
			}
		}
	}
}

// P15.1, P15.2: short and long windows, last a part beside, far beside, and any, in true numbers.
func TestLossAndTimeoutWithinAsTheTrueNumbers(t *testing.T) {
	next := stirred(153)
	for range 10000 {
		for _, window := range []int{two + next(greatest-two+1), next(40 * one)} {
			for _, last := range []int{window + next(40) - 20, window + next(2*window+1) - window, next(1<<62) - 1<<61, next(greatest)} {
				holdBoth(t, window, last)
			}
		}
	}
}

// chain is what so many losses leave of the greatest window.
func chain() []int {
	return []int{
		68719476736, 48103633715, 33672543600, 23570780520, 16499546364, 11549682454, 8084777717, 5659344401,
		3961541080, 2773078756, 1941155129, 1358808590, 951166013, 665816209, 466071346, 326249942,
		228374959, 159862471, 111903729, 78332610, 54832827, 38382978, 26868084, 18807658,
		13165360, 9215752, 6451026, 4515718, 3161002, 2212701, 1548890, 1084223,
		758956, 531269, 371888, 260321, 182224, 131072,
	}
}

// P15.3: n below 0, 0, 1, 2, and up to as many as leave two segments, and far more.
func TestMany(t *testing.T) {
	for _, c := range []struct{ window, n, want int }{
		{10 * one, fewest, 10 * one},
		{10 * one, fewest + 1, 10 * one},
		{10 * one, -2, 10 * one},
		{10 * one, -1, 10 * one},
		{10 * one, 0, 10 * one},
		{10 * one, 1, 7 * one},
		{10 * one, 2, 321126},
		{10 * one, 3, 224788},
		{10 * one, 4, 157351},
		{10 * one, 5, two},
		{10 * one, 6, two},
		{10 * one, most, two},

		{two, fewest, two},
		{two, -1, two},
		{two, 0, two},
		{two, 1, two},
		{two, 2, two},
		{two, most, two},
		{two + 1, -1, two + 1},
		{two + 1, 0, two + 1},
		{two + 1, 1, two},
		{two + 1, most, two},
		{justTwo + 2, 0, justTwo + 2},
		{justTwo + 2, 1, two + 1},
		{justTwo + 2, 2, two},

		{fewest, fewest, two},
		{fewest, -1, two},
		{fewest, 0, two},
		{fewest, 1, two},
		{fewest, most, two},
		{-1, -1, two},
		{-1, 0, two},
		{-1, 1, two},
		{0, fewest, two},
		{0, 0, two},
		{0, 1, two},
		{0, most, two},
		{two - 1, -1, two},
		{two - 1, 0, two},
		{two - 1, 1, two},

		{greatest - 1, -1, greatest - 1},
		{greatest - 1, 0, greatest - 1},
		{greatest - 1, 1, 48103633714},
		{greatest, fewest, greatest},
		{greatest, -1, greatest},
		{greatest, 0, greatest},
		{greatest, 1, 48103633715},
		{greatest, 2, 33672543600},
		{greatest, losses - 1, 182224},
		{greatest, losses, two},
		{greatest, losses + 1, two},
		{greatest, 1000, two},
		{greatest, 1 << 40, two},
		{greatest, 1 << 62, two},
		{greatest, most - 1, two},
		{greatest, most, two},
		{greatest + 1, fewest, greatest},
		{greatest + 1, -1, greatest},
		{greatest + 1, 0, greatest},
		{greatest + 1, 1, 48103633715},
		{greatest + 1, losses - 1, 182224},
		{greatest + 1, losses, two},
		{most, fewest, greatest},
		{most, 0, greatest},
		{most, 1, 48103633715},
		{most, 2, 33672543600},
		{most, losses - 1, 182224},
		{most, losses, two},
		{most, most, two},
	} {
		if trueMany(c.window, c.n) != c.want {
			t.Errorf("%d is not what %d and %d tell", c.want, c.window, c.n)
		}
		holdMany(t, c.window, c.n)
	}
}

func holdMany(t *testing.T, window, n int) {
	t.Helper()
	if m, want := cut.Many(window, n), trueMany(window, n); m != want {
		t.Fatalf("Many(%d, %d): %d, not %d", window, n, m, want)
	}
}

// P15.3: what each loss leaves of the greatest window, written out.
func TestManyOfTheGreatest(t *testing.T) {
	l := chain()
	if len(l) != losses+1 || l[0] != greatest || l[losses] != two {
		t.Fatalf("%d losses, from %d to %d", len(l)-1, l[0], l[len(l)-1])
	}
	for n, want := range l {
		for _, window := range []int{greatest, greatest + 1, most} {
			if m := cut.Many(window, n); m != want {
				t.Fatalf("Many(%d, %d): %d, not %d", window, n, m, want)
			}
		}
	}
}

// P15.3: all edges of both beside each other, in true numbers.
func TestManyAsTheTrueNumber(t *testing.T) {
	l := append(edges(), windows()...)
	for _, window := range l {
		for _, n := range l {
			holdMany(t, window, n)
		}
		for n := -3; n < losses+10; n++ {
			holdMany(t, window, n)
		}
	}
}

// P15.3: it is Least, called one behind the other, of the window as it is taken.
func TestManyIsLeastAgainAndAgain(t *testing.T) {
	next := stirred(154)
	l := append(edges(), windows()...)
	for range 500 {
		l = append(l, two+next(greatest-two+1), next(40*one))
	}
	for _, window := range l {
		w := asInt(given(window))
		for n := range 2 * losses {
			if m := cut.Many(window, n); m != w {
				t.Fatalf("Many(%d, %d): %d, not %d", window, n, m, w)
			}
			w = cut.Least(w)
		}
	}
}

// P15.3: some losses, and then some more, are all of them together.
func TestManyInTwoParts(t *testing.T) {
	next := stirred(155)
	for range 10000 {
		window, first, second := two+next(greatest-two+1), next(30), next(30)
		if n, m := cut.Many(cut.Many(window, first), second), cut.Many(window, first+second); n != m {
			t.Fatalf("Many(%d) of %d and %d: %d, and at once %d", window, first, second, n, m)
		}
	}
}

// leftOf are all that tell what is left of a window, by whatever last, and however many losses.
func leftOf(window int) []int {
	l := []int{cut.Least(window)}
	for _, n := range []int{1, 2, 5, losses, most} {
		l = append(l, cut.Many(window, n))
	}
	for _, last := range []int{fewest, window, most} {
		loss, _ := cut.Loss(window, last)
		late, end, _ := cut.Timeout(window, last)
		l = append(l, loss, late, end)
	}
	return append(l, cut.Many(window, 0), cut.Many(window, fewest))
}

// some are neighbouring windows and far ones, that lie in their bounds.
func some() []int {
	next := stirred(156)
	l := windows()
	for by := range 200 {
		l = append(l, two+by, justTwo-100+by, 10*one-100+by, greatest/2-100+by, greatest-by)
	}
	for range 2000 {
		l = append(l, two+next(greatest-two+1), two+next(40*one))
	}
	return l
}

// P15.4: what is left is never more than the window, nor less than two segments.
func TestLeftIsNoMoreAndTwoSegments(t *testing.T) {
	for _, window := range some() {
		for i, n := range leftOf(window) {
			if n > window || n < two {
				t.Fatalf("of %d, at %d: %d", window, i, n)
			}
		}
		if n := cut.Least(window); n == window && window != two {
			t.Fatalf("of %d all is left", window)
		}
	}
}

// P15.4: whatever is handed in, it lies between two segments and the greatest window, and where it grows next is no more than the window.
func TestAllLieInTheirBounds(t *testing.T) {
	l := append(edges(), windows()...)
	for _, a := range l {
		for i, n := range leftOf(a) {
			if n < two || n > greatest {
				t.Fatalf("of %d, at %d: %d", a, i, n)
			}
		}
		for _, b := range l {
			if n := cut.Many(a, b); n < two || n > greatest {
				t.Fatalf("Many(%d, %d): %d", a, b, n)
			}
			_, next := cut.Loss(a, b)
			_, _, late := cut.Timeout(a, b)
			if next != late || next > asInt(given(a)) || next < 111411 {
				t.Fatalf("of %d and %d up to %d, and %d", a, b, next, late)
			}
		}
	}
}

// P15.4: of more it is no less: neighbours, and far ones.
func TestOfMoreItIsNoLess(t *testing.T) {
	next := stirred(157)
	for _, window := range append(some(), edges()...) {
		for _, by := range []int{1, 2, 3, 10, one, next(40*one) + 1, next(greatest) + 1, next(1<<61) + 1} {
			if window > most-by {
				continue
			}
			less, more := leftOf(window), leftOf(window+by)
			for i := range less {
				if more[i] < less[i] {
					t.Fatalf("of %d, at %d: %d, and of %d more %d", window, i, less[i], by, more[i])
				}
			}
		}
	}
}

// P15.4: often enough it is two segments, for good, and each one ahead of that leaves less.
func TestOftenEnoughItIsTwoSegments(t *testing.T) {
	for _, window := range append(some(), edges()...) {
		w := asInt(given(window))
		for range losses {
			less := cut.Least(w)
			if less > w || less == w && w != two {
				t.Fatalf("of %d %d is left, of %d", w, less, window)
			}
			w = less
		}
		if w != two || cut.Least(w) != two {
			t.Fatalf("%d losses leave %d of %d", losses, w, window)
		}
		for _, n := range []int{losses, losses + 1, 1000, 1 << 40, most} {
			if m := cut.Many(window, n); m != two {
				t.Fatalf("Many(%d, %d): %d", window, n, m)
			}
		}
	}
}

// P15.4: of the greatest window one loss fewer does not do.
func TestOneFewerIsNotEnough(t *testing.T) {
	if n := cut.Many(greatest, losses-1); n <= two {
		t.Errorf("%d losses leave %d", losses-1, n)
	}
}

// The chapter's example, in segments.
func TestExample(t *testing.T) {
	if least, next := cut.Loss(10*one, 12*one); least != 7*one || next != 17*one/2 {
		t.Errorf("%d, %d", least, next)
	}
}

// R4: what is answered hangs on the arguments alone: the same each time, whatever was asked between, and by however many at once.
func TestSameAnswerEachTime(t *testing.T) {
	var all sync.WaitGroup
	for range 8 {
		all.Go(func() {
			for range 50 {
				cut.Least(most)
				cut.Loss(fewest, most)
				cut.Timeout(most, fewest)
				cut.Many(most, 3)
				n, end, up := cut.Timeout(10*one, 12*one)
				loss, next := cut.Loss(10*one, 12*one)
				if n != two || end != 7*one || up != next || next != 17*one/2 || loss != 7*one || cut.Least(10*one) != loss || cut.Many(10*one, 1) != loss {
					t.Errorf("%d, %d, %d, %d, %d", n, end, up, loss, next)
				}
			}
		})
	}
	all.Wait()
}
