package guide_test

import (
	"math"
	exact "math/big"
	"slices"
	"sync"
	"testing"

	"sawtooth/api"
	"sawtooth/epoch"
	"sawtooth/guide"
)

const (
	most     = math.MaxInt64
	fewest   = math.MinInt64
	one      = 65536
	two      = 2 * one
	maxSegs  = 1048576
	maxTime  = 1 << 40
	greatest = maxSegs * one
)

// The numbers of a configuration, by their places.
const (
	seg = iota
	high
	first
	grain
	least
	great
	burst
	numbers
)

func whole(n int) *exact.Int { return exact.NewInt(int64(n)) }

func product(l ...int) *exact.Int {
	p := whole(1)
	for _, n := range l {
		p.Mul(p, whole(n))
	}
	return p
}

// heldLess is chapter 1's word of the true difference.
func heldLess(a, b int) int {
	n := new(exact.Int).Sub(whole(a), whole(b))
	if n.Cmp(whole(most)) > 0 {
		return most
	}
	if n.Cmp(whole(fewest)) < 0 {
		return fewest
	}
	return int(n.Int64())
}

// of is a configuration by its numbers in their order, and numbersOf is the way back.
func of(l [numbers]int) api.Config {
	return api.Config{Seg: l[seg], Max: l[high], First: l[first], Grain: l[grain], Least: l[least], Great: l[great], Burst: l[burst]}
}

func numbersOf(c api.Config) [numbers]int {
	return [numbers]int{c.Seg, c.Max, c.First, c.Grain, c.Least, c.Great, c.Burst}
}

// with is c with n at one place.
func with(c api.Config, place, n int) api.Config {
	l := numbersOf(c)
	l[place] = n
	return of(l)
}

func usual() api.Config { return of([numbers]int{1000, 1000, 10, 1000, 200000, 60000000, 10}) }

// lowest and widest have the least, and the greatest numbers that may be, all at once.
func lowest() api.Config { return of([numbers]int{1, 4, 2, 1, 1, 1, 1}) }

func widest() api.Config {
	return of([numbers]int{9000, maxSegs, maxSegs, 1000000, maxTime, maxTime, 1000})
}

func may() []api.Config {
	return []api.Config{
		usual(), lowest(), widest(),
		of([numbers]int{1, 4, 4, 1, 1, 1, 1}),
		of([numbers]int{9000, maxSegs, 2, 1000000, 1, maxTime, 1000}),
		of([numbers]int{1460, 5, 3, 4000, 999, 1000, 2}),
		of([numbers]int{1460, 100, 100, 1, 200000, 200000, 1000}),
	}
}

// mayNot are configurations that may not be, by each number, and by several.
func mayNot() []api.Config {
	l := []api.Config{
		{},
		of([numbers]int{-1, -1, -1, -1, -1, -1, -1}),
		of([numbers]int{most, most, most, most, most, most, most}),
		of([numbers]int{fewest, fewest, fewest, fewest, fewest, fewest, fewest}),
		of([numbers]int{0, 1000, 10, 1000, 200000, 60000000, 0}),
		of([numbers]int{1000, 3, 3, 1000, 200000, 60000000, 10}),
		of([numbers]int{1000, 1000, 10, 1000, 0, 0, 10}),
		of([numbers]int{1000, 1000, 10, 1000, maxTime + 1, maxTime + 1, 10}),
		of([numbers]int{1000, maxSegs + 1, maxSegs + 1, 1000, 200000, 60000000, 10}),
	}
	for place := range numbers {
		l = append(l, with(usual(), place, 0), with(usual(), place, -1), with(usual(), place, most), with(usual(), place, fewest))
	}
	return l
}

// mayBe is as the chapter's words say it, one behind the other.
func mayBe(c api.Config) bool {
	if c.Seg < 1 || c.Seg > 9000 {
		return false
	}
	if c.Max < 4 || c.Max > 1<<20 {
		return false
	}
	if c.First < 2 || c.First > c.Max {
		return false
	}
	if c.Grain < 1 || c.Grain > 1000000 {
		return false
	}
	if c.Least < 1 || c.Least > c.Great {
		return false
	}
	if c.Great > 1<<40 {
		return false
	}
	return c.Burst >= 1 && c.Burst <= 1000
}

func trueCheck(c api.Config) api.Errno {
	if mayBe(c) {
		return api.OK
	}
	return api.ErrConfig
}

// trueFirst is P19.1's First by its words.
func trueFirst(c api.Config) int {
	if !mayBe(c) {
		return 2 * 65536
	}
	return c.First * 65536
}

// trueIdle is P19.2 by its words.
func trueIdle(window, last, now, timeout int, c api.Config) int {
	if heldLess(now, last) <= timeout {
		return window
	}
	left := trueFirst(c)
	if window < left {
		left = window
	}
	if left < 2*65536 {
		return 2 * 65536
	}
	return left
}

// truePause is P19.3's Pause by its words, and those of chapter 11.
func truePause(e api.Epoch, last, now int) api.Epoch {
	by := heldLess(now, last)
	if !e.On || by < 1 {
		return e
	}
	start := new(exact.Int).Add(whole(e.Start), whole(by))
	if start.Cmp(whole(1<<40)) > 0 {
		start = whole(1 << 40)
	}
	e.Start = int(start.Int64())
	return e
}

// trueUsed is P19.3's Used by its words, in true numbers.
func trueUsed(window, out, seg int) bool {
	if window < 0 || out < 0 || seg < 0 {
		return false
	}
	return product(out, 2, 65536).Cmp(product(window, seg)) >= 0
}

// near are numbers, and those around each, on both sides, where these do not go round.
func near(l ...int) []int {
	var all []int
	for _, n := range l {
		all = append(all, n)
		if n > fewest {
			all = append(all, n-1)
		}
		if n < most {
			all = append(all, n+1)
		}
	}
	slices.Sort(all)
	return slices.Compact(all)
}

// stirred is a row that looks like chance, and is the same each time.
func stirred(seed uint64) func(below int) int {
	return func(below int) int {
		seed = seed*6364136223846793005 + 1442695040888963407
		return int((seed >> 20) % uint64(below))
	}
}

// sized are stirred numbers of all sizes up to below 2^bits.
func sized(next func(int) int, bits int) int { return next(1 << next(bits+1)) }

// stirredMay is a stirred configuration that may be.
func stirredMay(next func(int) int) api.Config {
	c := api.Config{Seg: 1 + next(9000), Grain: 1 + next(1000000), Burst: 1 + next(1000)}
	c.Max = 4 + next(sizeUpTo(next, maxSegs-3))
	c.First = 2 + next(sizeUpTo(next, c.Max-1))
	c.Great = 1 + next(sizeUpTo(next, maxTime))
	c.Least = 1 + next(sizeUpTo(next, c.Great))
	return c
}

// sizeUpTo is 1 to n, and often far less than n.
func sizeUpTo(next func(int) int, n int) int { return 1 + next(n)>>next(20) }

// stirredAny is a stirred configuration of which one number, or two, are laid anew: so it may be, or may just not be.
func stirredAny(next func(int) int) api.Config {
	c := stirredMay(next)
	for range next(3) {
		c = with(c, next(numbers), sized(next, 42)-next(4))
	}
	return c
}

func holdConfig(t *testing.T, c api.Config) {
	t.Helper()
	if err := guide.Check(c); err != trueCheck(c) {
		t.Fatalf("Check(%+v): %d, not %d", c, err, trueCheck(c))
	}
	if n := guide.First(c); n != trueFirst(c) {
		t.Fatalf("First(%+v): %d, not %d", c, n, trueFirst(c))
	}
}

func holdIdle(t *testing.T, window, last, now, timeout int, c api.Config) {
	t.Helper()
	if got, want := guide.Idle(window, last, now, timeout, c), trueIdle(window, last, now, timeout, c); got != want {
		t.Fatalf("Idle(%d, %d, %d, %d, %+v): %d, not %d", window, last, now, timeout, c, got, want)
	}
}

func holdPause(t *testing.T, e api.Epoch, last, now int) {
	t.Helper()
	got := guide.Pause(e, last, now)
	if want := truePause(e, last, now); got != want {
		t.Fatalf("Pause(%+v, %d, %d): %+v, not %+v", e, last, now, got, want)
	}
	if want := epoch.Shift(e, heldLess(now, last)); got != want {
		t.Fatalf("Pause(%+v, %d, %d): %+v, and by Shift %+v", e, last, now, got, want)
	}
}

func holdUsed(t *testing.T, window, out, seg int) {
	t.Helper()
	if got, want := guide.Used(window, out, seg), trueUsed(window, out, seg); got != want {
		t.Fatalf("Used(%d, %d, %d): %v, not %v", window, out, seg, got, want)
	}
}

// P19.1: each number just below, at and just above both of its bounds, at 0, below 0, and at both edges of 64 bits.
func TestCheck(t *testing.T) {
	for _, c := range []struct {
		name  string
		place int
		good  []int
		bad   []int
	}{
		{"Seg", seg, []int{1, 2, 536, 1460, 8999, 9000}, []int{9001, 9002, 18000, 65536}},
		{"Max", high, []int{10, 11, 999, 1001, maxSegs - 1, maxSegs}, []int{1, 2, 3, 4, 9, maxSegs + 1, maxSegs + 2, 2 * maxSegs, greatest}},
		{"First", first, []int{2, 3, 4, 11, 999, 1000}, []int{1, 1001, 1002, maxSegs, maxSegs + 1}},
		{"Grain", grain, []int{1, 2, 4000, 999999, 1000000}, []int{1000001, 1000002, 2000000, maxTime}},
		{"Least", least, []int{1, 2, 59999999, 60000000}, []int{60000001, 60000002, maxTime, maxTime + 1}},
		{"Great", great, []int{200000, 200001, maxTime - 1, maxTime}, []int{1, 2, 199998, 199999, maxTime + 1, maxTime + 2, 2 * maxTime}},
		{"Burst", burst, []int{1, 2, 3, 999, 1000}, []int{1001, 1002, 2000, 1 << 20}},
	} {
		for _, n := range c.good {
			if err := guide.Check(with(usual(), c.place, n)); err != api.OK {
				t.Errorf("%s of %d: %d", c.name, n, err)
			}
		}
		for _, n := range slices.Concat(c.bad, []int{0, -1, -2, -10, -1000, -maxSegs, -maxTime, fewest, fewest + 1, most, most - 1, 1 << 62, -1 << 62}) {
			if err := guide.Check(with(usual(), c.place, n)); err != api.ErrConfig {
				t.Errorf("%s of %d: %d", c.name, n, err)
			}
		}
	}
}

// P19.1: the bounds that hang on another number, with both at the edges of what may be, and First and Max at the bound that is not the other one's.
func TestCheckOfTwoNumbers(t *testing.T) {
	for _, c := range []struct {
		change [][2]int
		want   api.Errno
	}{
		{[][2]int{{high, 4}, {first, 2}}, api.OK},
		{[][2]int{{high, 4}, {first, 4}}, api.OK},
		{[][2]int{{high, 4}, {first, 5}}, api.ErrConfig},
		{[][2]int{{high, 4}, {first, 1}}, api.ErrConfig},
		{[][2]int{{high, 3}, {first, 3}}, api.ErrConfig},
		{[][2]int{{high, 3}, {first, 2}}, api.ErrConfig},
		{[][2]int{{high, 2}, {first, 2}}, api.ErrConfig},
		{[][2]int{{high, 1}, {first, 1}}, api.ErrConfig},
		{[][2]int{{high, 0}, {first, 0}}, api.ErrConfig},
		{[][2]int{{high, -1}, {first, -1}}, api.ErrConfig},
		{[][2]int{{high, -1}, {first, 2}}, api.ErrConfig},
		{[][2]int{{high, fewest}, {first, fewest}}, api.ErrConfig},
		{[][2]int{{high, fewest}, {first, most}}, api.ErrConfig},
		{[][2]int{{high, most}, {first, fewest}}, api.ErrConfig},
		{[][2]int{{high, most}, {first, most}}, api.ErrConfig},
		{[][2]int{{high, maxSegs}, {first, maxSegs}}, api.OK},
		{[][2]int{{high, maxSegs}, {first, maxSegs + 1}}, api.ErrConfig},
		{[][2]int{{high, maxSegs + 1}, {first, maxSegs}}, api.ErrConfig},
		{[][2]int{{high, maxSegs + 1}, {first, maxSegs + 1}}, api.ErrConfig},
		{[][2]int{{high, maxSegs - 1}, {first, maxSegs}}, api.ErrConfig},

		{[][2]int{{least, 1}, {great, 1}}, api.OK},
		{[][2]int{{least, 1}, {great, 2}}, api.OK},
		{[][2]int{{least, 2}, {great, 2}}, api.OK},
		{[][2]int{{least, 2}, {great, 1}}, api.ErrConfig},
		{[][2]int{{least, 0}, {great, 1}}, api.ErrConfig},
		{[][2]int{{least, 0}, {great, 0}}, api.ErrConfig},
		{[][2]int{{least, 1}, {great, 0}}, api.ErrConfig},
		{[][2]int{{least, -1}, {great, -1}}, api.ErrConfig},
		{[][2]int{{least, -2}, {great, -1}}, api.ErrConfig},
		{[][2]int{{least, fewest}, {great, fewest}}, api.ErrConfig},
		{[][2]int{{least, fewest}, {great, most}}, api.ErrConfig},
		{[][2]int{{least, most}, {great, fewest}}, api.ErrConfig},
		{[][2]int{{least, most}, {great, most}}, api.ErrConfig},
		{[][2]int{{least, 1}, {great, most}}, api.ErrConfig},
		{[][2]int{{least, maxTime}, {great, maxTime}}, api.OK},
		{[][2]int{{least, 1}, {great, maxTime}}, api.OK},
		{[][2]int{{least, maxTime}, {great, maxTime - 1}}, api.ErrConfig},
		{[][2]int{{least, maxTime}, {great, maxTime + 1}}, api.ErrConfig},
		{[][2]int{{least, maxTime + 1}, {great, maxTime + 1}}, api.ErrConfig},
		{[][2]int{{least, maxTime + 1}, {great, maxTime}}, api.ErrConfig},
	} {
		x := usual()
		for _, n := range c.change {
			x = with(x, n[0], n[1])
		}
		if err := guide.Check(x); err != c.want {
			t.Errorf("Check(%+v): %d, not %d", x, err, c.want)
		}
	}
}

// P19.1: whole configurations, the least and the greatest ones that may be, and those that may not be.
func TestCheckOfWhole(t *testing.T) {
	for _, c := range may() {
		if err := guide.Check(c); err != api.OK {
			t.Errorf("Check(%+v): %d", c, err)
		}
	}
	for _, c := range mayNot() {
		if err := guide.Check(c); err != api.ErrConfig {
			t.Errorf("Check(%+v): %d", c, err)
		}
	}
}

// P19.1: one number is wrong, and all others are as low, or as high, as they may be.
func TestCheckOfOneWrong(t *testing.T) {
	for place, l := range [numbers][]int{
		seg:   near(fewest, 0, 1, 9000, most),
		high:  near(fewest, 0, 4, maxSegs, most),
		first: near(fewest, 0, 2, 4, maxSegs, most),
		grain: near(fewest, 0, 1, 1000000, most),
		least: near(fewest, 0, 1, maxTime, most),
		great: near(fewest, 0, 1, maxTime, most),
		burst: near(fewest, 0, 1, 1000, most),
	} {
		for _, c := range may() {
			for _, n := range l {
				holdConfig(t, with(c, place, n))
			}
		}
	}
}

// P19.1: all numbers at their edges beside each other, where many are wrong at once.
func TestCheckAsTheWords(t *testing.T) {
	var all func(l [numbers]int, place int)
	held := 0
	all = func(l [numbers]int, place int) {
		if place == numbers {
			holdConfig(t, of(l))
			held++
			return
		}
		for _, n := range [numbers][]int{
			seg:   {0, 1, 9000, 9001},
			high:  {3, 4, 7, maxSegs, maxSegs + 1},
			first: {1, 2, 4, 7, 8, maxSegs},
			grain: {0, 1, 1000000, 1000001},
			least: {0, 1, 500, maxTime},
			great: {0, 1, 500, maxTime, maxTime + 1},
			burst: {0, 1, 1000, 1001},
		}[place] {
			l[place] = n
			all(l, place+1)
		}
	}
	all([numbers]int{}, 0)
	if held != 4*5*6*4*4*5*4 {
		t.Error(held)
	}
}

// P19.1: stirred ones, of which many may be, and many may just not be.
func TestCheckOfAllSizes(t *testing.T) {
	next := stirred(19)
	good := 0
	for range 100000 {
		c := stirredAny(next)
		holdConfig(t, c)
		if mayBe(c) {
			good++
		}
	}
	if good < 30000 || good > 70000 {
		t.Error(good)
	}
}

// P19.1: whole segments of those that may be, with the least and the greatest First; two segments of the others.
func TestFirst(t *testing.T) {
	for _, c := range []struct {
		c    api.Config
		want int
	}{
		{usual(), 10 * one},
		{lowest(), two},
		{widest(), greatest},
		{with(usual(), first, 2), two},
		{with(usual(), first, 3), 3 * one},
		{with(usual(), first, 4), 4 * one},
		{with(usual(), first, 999), 999 * one},
		{with(usual(), first, 1000), 1000 * one},
		{with(widest(), first, maxSegs-1), greatest - one},

		{with(usual(), first, 1001), two},
		{with(usual(), first, 1), two},
		{with(usual(), first, 0), two},
		{with(usual(), first, -1), two},
		{with(usual(), first, -10), two},
		{with(usual(), first, 1<<47), two},
		{with(usual(), first, 1<<48+10), two},
		{with(usual(), first, fewest), two},
		{with(usual(), first, most), two},
		{with(widest(), first, maxSegs+1), two},
		{api.Config{}, two},
		{api.Config{First: 10}, two},
	} {
		if n := guide.First(c.c); n != c.want {
			t.Errorf("First(%+v): %d, not %d", c.c, n, c.want)
		}
	}
	for _, c := range mayNot() {
		if n := guide.First(c); n != two {
			t.Errorf("First(%+v): %d", c, n)
		}
	}
}

// parted holds Parts of l against the words, and tells both.
func parted(t *testing.T, l []api.Config) ([]api.Config, []api.Config) {
	t.Helper()
	var good, bad []api.Config
	for _, c := range l {
		if mayBe(c) {
			good = append(good, c)
		} else {
			bad = append(bad, c)
		}
	}
	given := slices.Clone(l)
	x, y := guide.Parts(l)
	if !slices.Equal(x, good) || !slices.Equal(y, bad) {
		t.Fatalf("Parts(%+v): %+v, %+v", given, x, y)
	}
	if !slices.Equal(l, given) {
		t.Fatalf("%+v, and behind Parts %+v", given, l)
	}
	return x, y
}

// P19.1: without any, and with one.
func TestPartsOfFew(t *testing.T) {
	for _, l := range [][]api.Config{nil, {}, make([]api.Config, 0, 5)} {
		if x, y := parted(t, l); len(x) != 0 || len(y) != 0 {
			t.Errorf("%+v, %+v", x, y)
		}
	}
	for _, c := range may() {
		if x, y := parted(t, []api.Config{c}); len(x) != 1 || x[0] != c || len(y) != 0 {
			t.Errorf("%+v, %+v", x, y)
		}
	}
	for _, c := range mayNot() {
		if x, y := parted(t, []api.Config{c}); len(x) != 0 || len(y) != 1 || y[0] != c {
			t.Errorf("%+v, %+v", x, y)
		}
	}
}

// marked are many of both, each of another kind, alike ones among them, and in an order that is none of any number.
func marked() []api.Config {
	a, b, c := with(usual(), seg, 7), with(usual(), first, 3), with(usual(), burst, 999)
	p, q, r := with(usual(), seg, 0), with(usual(), first, 5000), with(usual(), burst, 1001)
	return []api.Config{q, c, a, p, p, a, c, c, r, q, b, p, a, r, b, {}, c, {}, q}
}

// P19.1: all of one kind, and many of both, each in order, with alike ones among them.
func TestParts(t *testing.T) {
	parted(t, may())
	parted(t, mayNot())
	parted(t, slices.Concat(may(), mayNot()))
	parted(t, slices.Concat(mayNot(), may()))
	parted(t, slices.Repeat([]api.Config{usual()}, 50))
	parted(t, slices.Repeat([]api.Config{{}}, 50))
	parted(t, slices.Repeat([]api.Config{usual(), {}}, 50))
	x, y := parted(t, marked())
	if len(x) != 9 || len(y) != 10 {
		t.Errorf("%d, %d", len(x), len(y))
	}
	next := stirred(56)
	for many := range 300 {
		l := make([]api.Config, many)
		for i := range l {
			l[i] = stirredAny(next)
		}
		x, y := parted(t, l)
		if len(x)+len(y) != many {
			t.Fatalf("%d, %d, of %d", len(x), len(y), many)
		}
	}
}

// R3: the list that is given stays as it was, with its spare room.
func TestPartsLeavesWhatIsGiven(t *testing.T) {
	odd := with(usual(), grain, 77)
	for _, l := range [][]api.Config{may(), mayNot(), marked(), {usual()}, {{}}, {}} {
		room := make([]api.Config, len(l)+20)
		for i := range room {
			room[i] = odd
		}
		copy(room, l)
		guide.Parts(room[:len(l)])
		if !slices.Equal(room[:len(l)], l) {
			t.Errorf("%+v, not %+v", room[:len(l)], l)
		}
		for _, c := range room[len(l):] {
			if c != odd {
				t.Errorf("%+v behind %+v", c, l)
			}
		}
	}
}

// spoil writes over all of l, and over all the room behind it.
func spoil(l []api.Config) {
	for i := range l[:cap(l)] {
		l[:cap(l)][i] = api.Config{Seg: -7, Burst: -7}
	}
	for range 40 {
		l = append(l, api.Config{Seg: -8, Burst: -8})
	}
}

// R3: neither answer changes when the list that was given, or the other one, is written to, or added to.
func TestPartsAreInMemoryOfTheirOwn(t *testing.T) {
	for _, l := range [][]api.Config{may(), mayNot(), marked(), slices.Concat(may(), mayNot()), slices.Concat(mayNot(), may()), {usual(), {}}, {{}, usual()}} {
		given := append(make([]api.Config, 0, len(l)+30), l...)
		x, y := guide.Parts(given)
		good, bad := slices.Clone(x), slices.Clone(y)
		spoil(given)
		if !slices.Equal(x, good) || !slices.Equal(y, bad) {
			t.Errorf("%+v, %+v behind the list that was given", x, y)
		}

		given = slices.Clone(l)
		x, y = guide.Parts(given)
		spoil(x)
		if !slices.Equal(y, bad) || !slices.Equal(given, l) {
			t.Errorf("%+v behind the first answer, and %+v was given", y, given)
		}

		x, y = guide.Parts(given)
		spoil(y)
		if !slices.Equal(x, good) || !slices.Equal(given, l) {
			t.Errorf("%+v behind the second answer, and %+v was given", x, given)
		}
	}
}

// R3: nothing is kept from one call to the next one.
func TestPartsKeepsNothing(t *testing.T) {
	x, y := guide.Parts(marked())
	good, bad := slices.Clone(x), slices.Clone(y)
	guide.Parts(slices.Concat(mayNot(), may()))
	if !slices.Equal(x, good) || !slices.Equal(y, bad) {
		t.Errorf("%+v, %+v", x, y)
	}
	spoil(x)
	spoil(y)
	parted(t, marked())
}

// The chapter's example, and the ninth of the whole: the first window, or less.
func TestExample(t *testing.T) {
	if n := guide.Idle(100*one, 0, 3, 2, usual()); n != 10*one {
		t.Errorf("100 segments: %d", n)
	}
	if n := guide.Idle(5*one, 0, 3, 2, usual()); n != 5*one {
		t.Errorf("5 segments: %d", n)
	}
}

// P19.2: pauses just below, at and just above the timeout; times that go back; timeouts of 0, and below.
func TestIdle(t *testing.T) {
	const w, left = 100 * one, 10 * one
	for _, c := range []struct{ last, now, timeout, want int }{
		{0, 1, 2, w},
		{0, 2, 2, w},
		{0, 3, 2, left},
		{1000, 1999, 1000, w},
		{1000, 2000, 1000, w},
		{1000, 2001, 1000, left},
		{0, maxTime, maxTime, w},
		{0, maxTime, maxTime - 1, left},
		{0, maxTime, 0, left},
		{maxTime, maxTime, 1, w},

		// Nothing of time, and time that goes back.
		{7, 7, 1, w},
		{7, 7, 0, w},
		{7, 7, -1, left},
		{7, 6, 0, w},
		{7, 6, -1, w},
		{7, 6, -2, left},
		{maxTime, 0, 0, w},
		{maxTime, 0, -maxTime, w},
		{maxTime, 0, -maxTime - 1, left},
		{-5, 5, 10, w},
		{-5, 5, 9, left},
		{5, -5, -10, w},
		{5, -5, -11, left},

		// Timeouts of 0, and below.
		{0, 1, 0, left},
		{0, 1, -1, left},
		{0, 0, -1, left},
		{0, 0, fewest, left},
		{0, most, most, w},
		{0, most, most - 1, left},
		{0, fewest, fewest, w},
		{0, fewest, fewest + 1, w},
		{-1, most - 1, most, w},
		{-1, most - 1, most - 1, left},
	} {
		if n := guide.Idle(w, c.last, c.now, c.timeout, usual()); n != c.want {
			t.Errorf("Idle of %d to %d, %d: %d, not %d", c.last, c.now, c.timeout, n, c.want)
		}
	}
}

// P19.2: differences that are held, on both sides, and those that are just not.
func TestIdleOfHeldDifferences(t *testing.T) {
	const w, left = 100 * one, 10 * one
	for _, c := range []struct{ last, now, timeout, want int }{
		{-1, most, most, w},
		{-1, most, most - 1, left},
		{-2, most, most, w},
		{-2, most, most - 1, left},
		{-2, most, -1, left},
		{fewest, most, most, w},
		{fewest, most, most - 1, left},
		{fewest, most, 0, left},
		{fewest, most, -1, left},
		{fewest, most, fewest, left},
		{fewest, 0, most, w},
		{fewest, 0, most - 1, left},
		{fewest, 0, 0, left},
		{fewest, -1, most - 1, left},
		{fewest, -1, most, w},
		{fewest, -2, most - 1, w},

		{most, fewest, fewest, w},
		{most, fewest, fewest + 1, w},
		{most, fewest, 0, w},
		{most, fewest, most, w},
		{most, -1, fewest, w},
		{most, -2, fewest, w},
		{most, 0, fewest, left},
		{most, 0, fewest + 1, w},
		{1, fewest, fewest, w},
		{1, fewest, 0, w},
		{2, fewest, fewest, w},
		{2, fewest, -1, w},
	} {
		if n := guide.Idle(w, c.last, c.now, c.timeout, usual()); n != c.want {
			t.Errorf("Idle of %d to %d, %d: %d, not %d", c.last, c.now, c.timeout, n, c.want)
		}
	}
}

// P19.2: windows below 0, 0, below, at and above two segments, and below, at and above the first one; configurations that may not be.
func TestIdleOfWindows(t *testing.T) {
	for _, c := range []struct {
		window int
		c      api.Config
		want   int
	}{
		{fewest, usual(), two},
		{-greatest, usual(), two},
		{-1, usual(), two},
		{0, usual(), two},
		{1, usual(), two},
		{one, usual(), two},
		{two - 1, usual(), two},
		{two, usual(), two},
		{two + 1, usual(), two + 1},
		{3 * one, usual(), 3 * one},
		{10*one - 1, usual(), 10*one - 1},
		{10 * one, usual(), 10 * one},
		{10*one + 1, usual(), 10 * one},
		{1000*one + 1, usual(), 10 * one},
		{greatest, usual(), 10 * one},
		{greatest + 1, usual(), 10 * one},
		{most, usual(), 10 * one},

		{two - 1, lowest(), two},
		{two, lowest(), two},
		{two + 1, lowest(), two},
		{most, lowest(), two},
		{greatest - 1, widest(), greatest - 1},
		{greatest, widest(), greatest},
		{greatest + 1, widest(), greatest},
		{most, widest(), greatest},
		{fewest, widest(), two},

		{10 * one, with(usual(), seg, 0), two},
		{10 * one, with(usual(), first, 0), two},
		{10 * one, with(usual(), first, 1001), two},
		{two + 1, with(usual(), first, 1001), two},
		{two, api.Config{}, two},
		{two - 1, api.Config{}, two},
		{fewest, api.Config{}, two},
		{most, api.Config{}, two},
	} {
		if n := guide.Idle(c.window, 10, 20, 9, c.c); n != c.want {
			t.Errorf("Idle of %d, %+v: %d, not %d", c.window, c.c, n, c.want)
		}
		// Without a pause it stays, whatever it is.
		if n := guide.Idle(c.window, 10, 20, 10, c.c); n != c.window {
			t.Errorf("Idle of %d, %+v, without a pause: %d", c.window, c.c, n)
		}
	}
}

func windows(c api.Config) []int {
	return near(fewest, -greatest, 0, one, two, trueFirst(c), c.Max, greatest, most)
}

// P19.2: all windows, times and timeouts beside each other, as the chapter's words say in true numbers.
func TestIdleAsTheWords(t *testing.T) {
	times := near(fewest, -maxTime, 0, 1000, maxTime, most)
	for _, c := range slices.Concat(may(), mayNot()[:12]) {
		for _, last := range times {
			for _, now := range times {
				for _, timeout := range near(heldLess(now, last), fewest, 0, most) {
					for _, window := range []int{fewest, 0, two - 1, two, trueFirst(c) + 1, greatest, most} {
						holdIdle(t, window, last, now, timeout, c)
					}
				}
			}
		}
		for _, window := range windows(c) {
			for _, timeout := range near(5) {
				holdIdle(t, window, 3, 8, timeout, c)
			}
		}
	}
}

// P19.2: stirred ones of all sizes.
func TestIdleOfAllSizes(t *testing.T) {
	next := stirred(192)
	for range 60000 {
		c := stirredAny(next)
		last := sized(next, 62) - sized(next, 62)
		now := sized(next, 62) - sized(next, 62)
		window := sized(next, 42) - next(3)
		holdIdle(t, window, last, now, sized(next, 62)-sized(next, 62), c)
		for _, timeout := range near(heldLess(now, last)) {
			holdIdle(t, window, last, now, timeout, c)
		}
	}
}

func begun(t *testing.T, at, now, high int) api.Epoch {
	t.Helper()
	e, err := epoch.Begin(at, now, high)
	if err != api.OK {
		t.Fatal(err)
	}
	return e
}

// epochs are some that are on, one that is not, and some that may not be.
func epochs(t *testing.T) []api.Epoch {
	return []api.Epoch{
		begun(t, 0, two, 10*one),
		begun(t, 1000, 7*one, 10*one),
		begun(t, maxTime-1, 7*one, 10*one),
		begun(t, maxTime, 7*one, 7*one),
		{},
		{On: true},
		{On: true, Start: -1, First: 5},
		{On: true, Start: maxTime + 1, K: 7},
		{On: true, Start: most, First: 1, Max: 2, K: 3, Est: 4},
		{On: true, Start: fewest, First: -1, Max: -2, K: -3, Est: -4},
		{Start: 1000},
		{Start: most, First: 1, Max: 2, K: 3, Est: 4},
		{Start: fewest, K: 9},
	}
}

// P19.3: an epoch that is on begins later by the pause, and any other stays.
func TestPause(t *testing.T) {
	e := begun(t, 1000, 7*one, 10*one)
	for _, c := range []struct{ last, now, start int }{
		{500, 500, 1000},
		{500, 501, 1001},
		{500, 502, 1002},
		{500, 1500, 2000},
		{0, maxTime - 1001, maxTime - 1},
		{0, maxTime - 1000, maxTime},
		{0, maxTime - 999, maxTime},
		{0, maxTime, maxTime},
		{0, most, maxTime},
		{-1, most, maxTime},
		{fewest, most, maxTime},
		{fewest, 0, maxTime},
		{fewest, -1, maxTime},
		{fewest, fewest + 1, 1001},
		{most - 1, most, 1001},
		{-5, 5, 1010},
		{500, 499, 1000},
		{500, 0, 1000},
		{5, -5, 1000},
		{maxTime, 0, 1000},
		{most, fewest, 1000},
		{1, fewest, 1000},
		{0, fewest, 1000},
		{most, 0, 1000},
		{most, -1, 1000},
		{most, -2, 1000},
		{fewest, fewest, 1000},
		{most, most, 1000},
	} {
		want := e
		want.Start = c.start
		if got := guide.Pause(e, c.last, c.now); got != want {
			t.Errorf("Pause of %d to %d: %+v, not %+v", c.last, c.now, got, want)
		}
		if got := guide.Pause(api.Epoch{}, c.last, c.now); got != (api.Epoch{}) {
			t.Errorf("Pause of %d to %d, not on: %+v", c.last, c.now, got)
		}
	}
}

// P19.3: epochs that are on, that are not, and that may not be, and all times beside each other, against epoch.Shift.
func TestPauseAsTheWords(t *testing.T) {
	times := near(fewest, -maxTime, 0, 1000, maxTime, 1<<62, most)
	for _, e := range epochs(t) {
		for _, last := range times {
			for _, now := range times {
				holdPause(t, e, last, now)
			}
			for _, by := range near(0, 2, 1000) {
				if now := heldLess(last, -by); heldLess(now, last) == by {
					holdPause(t, e, last, now)
				}
			}
		}
	}
	next := stirred(193)
	for range 60000 {
		e := begun(t, sized(next, 40), sized(next, 36), sized(next, 36))
		e.On = next(4) > 0
		e.Est = sized(next, 36)
		holdPause(t, e, sized(next, 62)-sized(next, 62), sized(next, 62)-sized(next, 62))
		last := sized(next, 40)
		holdPause(t, e, last, last+sized(next, 40))
	}
}

// P19.3: a pause within what may be leaves what may be.
func TestPauseLeavesWhatMayBe(t *testing.T) {
	for _, e := range epochs(t)[:5] {
		for _, last := range near(0, 1000, maxTime) {
			for _, now := range near(fewest, 0, 1000, maxTime, most) {
				if x := guide.Pause(e, last, now); !epoch.Check(x) {
					t.Errorf("Pause(%+v, %d, %d): %+v", e, last, now, x)
				}
			}
		}
	}
}

// P19.3: just half of a window's bytes, one byte less, and one more, where half of them is whole, and where it is not.
func TestUsed(t *testing.T) {
	for _, c := range []struct {
		window, out, seg int
		want             bool
	}{
		{10 * one, 4999, 1000, false},
		{10 * one, 5000, 1000, true},
		{10 * one, 5001, 1000, true},
		{10 * one, 10000, 1000, true},
		{10 * one, 10001, 1000, true},
		{10 * one, 0, 1000, false},
		{10 * one, 1, 1000, false},
		{10*one + 1, 5000, 1000, false},
		{10*one + 1, 5001, 1000, true},
		{10*one - 1, 5000, 1000, true},
		{10*one - 1, 4999, 1000, false},
		{3 * one, 1, 1, false},
		{3 * one, 2, 1, true},
		{two, 1, 1, true},
		{two + 1, 1, 1, false},
		{two - 1, 1, 1, true},
		{two, 0, 1, false},
		{1, 0, 1, false},
		{1, 1, 1, true},
		{1, 1, two, true},
		{1, 1, two + 1, false},
		{1, 2, two + 1, true},
		{greatest, 4718591999, 9000, false},
		{greatest, 4718592000, 9000, true},
		{greatest, 4718592001, 9000, true},

		// Of 0 nothing is wanted.
		{0, 0, 0, true},
		{0, 0, 1000, true},
		{0, 1, 1000, true},
		{10 * one, 0, 0, true},
		{10 * one, 1, 0, true},
		{0, 0, most, true},
		{most, 0, 0, true},
		{0, most, 0, true},
	} {
		if is := guide.Used(c.window, c.out, c.seg); is != c.want {
			t.Errorf("Used(%d, %d, %d): %v", c.window, c.out, c.seg, is)
		}
	}
}

// P19.3: each of the three below 0, and several, though the products would let it.
func TestUsedOfWhatIsBelow0(t *testing.T) {
	for _, n := range []int{-1, -2, -one, -two, -greatest, fewest, fewest + 1} {
		for _, c := range [][3]int{
			{n, 5000, 1000}, {n, 0, 0}, {n, 0, 1000}, {n, most, most}, {n, most, 0},
			{0, n, 0}, {0, n, 1000}, {10 * one, n, 1000}, {10 * one, n, 0}, {most, n, most},
			{10 * one, 5000, n}, {10 * one, 0, n}, {0, 0, n}, {0, 5000, n}, {most, most, n},
			{n, n, 1000}, {n, n, 0}, {n, 5000, n}, {n, 0, n}, {10 * one, n, n}, {0, n, n}, {n, n, n},
		} {
			if guide.Used(c[0], c[1], c[2]) {
				t.Errorf("Used(%d, %d, %d)", c[0], c[1], c[2])
			}
		}
	}
}

// P19.3: products that go over 64 bits, on either side, and on both.
func TestUsedOfGreatProducts(t *testing.T) {
	for _, c := range []struct {
		window, out, seg int
		want             bool
	}{
		// What is out, by two times One, would be 0, or below 0.
		{10 * one, 1 << 46, 1000, true},
		{10 * one, 1 << 47, 1000, true},
		{10 * one, 1<<46 - 1, 1000, true},
		{10 * one, 1<<46 + 1, 1000, true},
		{10 * one, most, 1000, true},
		{greatest, most, 9000, true},

		// A window by a segment would be 0, or below 0.
		{1 << 32, 5, 1 << 32, false},
		{1 << 32, 5, 1 << 31, false},
		{1 << 32, 1<<47 - 1, 1 << 32, false},
		{1 << 32, 1 << 47, 1 << 32, true},
		{1 << 32, 1<<46 - 1, 1 << 31, false},
		{1 << 32, 1 << 46, 1 << 31, true},
		{1 << 62, 5, 4, false},
		{1 << 62, 5, 2, false},
		{most, 0, 2, false},
		{most, 0, most, false},

		// Both edges: the greatest of each.
		{most, most, 1, true},
		{most, most, two - 1, true},
		{most, most, two, true},
		{most, most, two + 1, false},
		{most, most - 1, two, false},
		{most - 1, most, two, true},
		{most, most, most, false},
		{two, most, most, true},
		{two + 1, most, most, false},
		{two, most - 1, most, false},
		{1, most, most, true},
		{most, 0, 1, false},
		{most, 70368744177663, 1, false},
		{most, 70368744177664, 1, true},
	} {
		if is := guide.Used(c.window, c.out, c.seg); is != c.want {
			t.Errorf("Used(%d, %d, %d): %v", c.window, c.out, c.seg, is)
		}
	}
}

// halfOf is the least number of bytes of which two times One is at least a window by a segment, where it is one of 64 bits.
func halfOf(window, seg int) (int, bool) {
	d := whole(two)
	n := new(exact.Int).Add(product(window, seg), whole(two-1))
	n.Div(n, d)
	if !n.IsInt64() {
		return 0, false
	}
	return int(n.Int64()), true
}

// holdHalf holds Used around half of a window's bytes.
func holdHalf(t *testing.T, window, seg int) {
	t.Helper()
	half, fits := halfOf(window, seg)
	if !fits {
		for _, out := range near(most, 0) {
			holdUsed(t, window, out, seg)
		}
		return
	}
	for _, out := range near(half, 2*half) {
		holdUsed(t, window, out, seg)
	}
	if !guide.Used(window, half, seg) || half > 0 && guide.Used(window, half-1, seg) {
		t.Fatalf("%d by %d, around %d", window, seg, half)
	}
}

// P19.3: all of the three beside each other, and what is just about half, as the chapter's words say in true numbers.
func TestUsedAsTheWords(t *testing.T) {
	sides := near(fewest, -two, 0, 5, 1000, 9000, one, two, 10*one, 1<<31, 1<<32, greatest, 1<<46, 1<<47, 1<<48, 1<<62, most)
	for _, window := range sides {
		for _, seg := range sides {
			for _, out := range sides {
				holdUsed(t, window, out, seg)
			}
			if window >= 0 && seg >= 0 {
				holdHalf(t, window, seg)
			}
		}
	}
	for window := range 500 {
		holdHalf(t, two+window, 1000)
		holdHalf(t, window*1009, 1460)
	}
}

// P19.3: stirred ones of all sizes.
func TestUsedOfAllSizes(t *testing.T) {
	next := stirred(194)
	for range 60000 {
		window, seg := sized(next, 62), sized(next, 62)
		holdUsed(t, window, sized(next, 62), seg)
		holdHalf(t, window, seg)
		holdHalf(t, sized(next, 36), 1+next(9000))
	}
}

// P19.4: a pause leaves no more than there was, and no less than two segments; a longer one, or one of a lesser timeout, leaves no more.
func TestAPauseLeavesNoMore(t *testing.T) {
	next := stirred(195)
	for range 60000 {
		c := stirredMay(next)
		window := two + sized(next, 36)
		last := sized(next, 40)
		now, timeout := last+sized(next, 30)-next(2), sized(next, 30)-next(2)
		left := guide.Idle(window, last, now, timeout, c)
		if left > window || left < two {
			t.Fatalf("Idle(%d, %d, %d, %d, %+v): %d", window, last, now, timeout, c, left)
		}
		if guide.Idle(window, last, now+1, timeout, c) > left || guide.Idle(window, last, now, timeout-1, c) > left {
			t.Fatalf("Idle(%d, %d, %d, %d, %+v): %d, and more behind more", window, last, now, timeout, c, left)
		}
		if again := guide.Idle(left, last, now, timeout, c); again != left {
			t.Fatalf("Idle(%d, %d, %d, %d, %+v): %d, and again %d", window, last, now, timeout, c, left, again)
		}
		if more := guide.Idle(window+1+next(one), last, now, timeout, c); more < left {
			t.Fatalf("Idle(%d, %d, %d, %d, %+v): %d, and of more %d", window, last, now, timeout, c, left, more)
		}
	}
}

// P19.4: so it is at the edges: of each configuration that may be, and windows around two segments, the first one, and the greatest one.
func TestAPauseLeavesNoMoreAtTheEdges(t *testing.T) {
	paused, stayed := 0, 0
	for _, c := range may() {
		for _, window := range slices.DeleteFunc(windows(c), func(n int) bool { return n < two }) {
			for _, last := range near(fewest, 0, maxTime, most) {
				for _, now := range near(fewest, 0, maxTime, most) {
					for _, timeout := range near(fewest, 0, c.Least, c.Great, most) {
						left := guide.Idle(window, last, now, timeout, c)
						if left > window || left < two {
							t.Fatalf("Idle(%d, %d, %d, %d, %+v): %d", window, last, now, timeout, c, left)
						}
						if left < window {
							paused++
						} else {
							stayed++
						}
					}
				}
			}
		}
	}
	if paused < 5000 || stayed < 5000 {
		t.Errorf("%d, %d", paused, stayed)
	}
}

// P19.4: what is Used with some is so with more; and of a lesser window, too.
func TestUsedWithMore(t *testing.T) {
	next := stirred(196)
	used := 0
	for range 60000 {
		window, seg := sized(next, 40), sized(next, 20)
		out := sized(next, 46)
		if half, fits := halfOf(window, seg); fits && next(2) == 0 {
			out = max(half-next(2), 0)
		}
		if !guide.Used(window, out, seg) {
			continue
		}
		used++
		for _, more := range []int{out + 1, out + 1 + sized(next, 60), most - 1, most} {
			if !guide.Used(window, more, seg) {
				t.Fatalf("Used(%d, %d, %d), and not with %d", window, out, seg, more)
			}
		}
		if !guide.Used(window/2, out, seg) || !guide.Used(window, out, seg/2) {
			t.Fatalf("Used(%d, %d, %d), and not of less", window, out, seg)
		}
	}
	if used < 20000 || used > 55000 {
		t.Error(used)
	}
}

// P19.4: so it is of all small windows, byte by byte.
func TestUsedByteByByte(t *testing.T) {
	for window := 0; window < 6*one; window += 4099 {
		for _, seg := range []int{0, 1, 2, 7, 100} {
			was := false
			for out := range 320 {
				is := guide.Used(window, out, seg)
				if was && !is || is != trueUsed(window, out, seg) {
					t.Fatalf("Used(%d, %d, %d): %v", window, out, seg, is)
				}
				was = is
			}
			if !was {
				t.Fatalf("%d, %d: never", window, seg)
			}
		}
	}
}

// R4: what is told hangs on what is given alone, beside other calls too.
func TestCallsBesideEachOther(t *testing.T) {
	shared := marked()
	var hands sync.WaitGroup
	for seed := range uint64(8) {
		hands.Add(1)
		go func() {
			defer hands.Done()
			next := stirred(seed)
			for range 2000 {
				c := stirredAny(next)
				if guide.Check(c) != trueCheck(c) || guide.First(c) != trueFirst(c) {
					t.Errorf("%+v", c)
				}
				window, last, now, timeout := sized(next, 37), sized(next, 41), sized(next, 41), sized(next, 41)
				if got := guide.Idle(window, last, now, timeout, c); got != trueIdle(window, last, now, timeout, c) {
					t.Errorf("Idle(%d, %d, %d, %d, %+v): %d", window, last, now, timeout, c, got)
				}
				if got := guide.Used(window, last, now); got != trueUsed(window, last, now) {
					t.Errorf("Used(%d, %d, %d): %v", window, last, now, got)
				}
				if x, y := guide.Parts(shared); len(x) != 9 || len(y) != 10 {
					t.Errorf("%+v, %+v", x, y)
				}
			}
		}()
	}
	hands.Wait()
}
