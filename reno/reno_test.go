package reno_test

import (
	"math"
	exact "math/big"
	"slices"
	"testing"

	"sawtooth/api"
	"sawtooth/reno"
)

const (
	most     = math.MaxInt64
	fewest   = math.MinInt64
	one      = api.One
	greatest = api.MaxSegs * api.One
)

// part is what nine seventeenths of a segment are, from below: half a part is left out.
const part = 34695

func whole(n int) *exact.Int { return exact.NewInt(int64(n)) }

func plus(a, b *exact.Int) *exact.Int { return new(exact.Int).Add(a, b) }

func times(a, b *exact.Int) *exact.Int { return new(exact.Int).Mul(a, b) }

// taken is n, low at least, and the greatest window at most.
func taken(n *exact.Int, low int) *exact.Int {
	switch {
	case n.Cmp(whole(low)) < 0:
		return whole(low)
	case n.Cmp(whole(1<<36)) > 0:
		return whole(1 << 36)
	}
	return n
}

// truePart is P13.1 by its words, with the difference in true numbers.
func truePart(est, prior int) (int, int) {
	if new(exact.Int).Sub(whole(est), whole(prior)).Sign() < 0 {
		return 9, 17
	}
	return 1, 1
}

// trueMore is what P13.2 adds, by its words, in true numbers, of which Div is from below.
func trueMore(est, prior, window, told int) *exact.Int {
	first, second := truePart(est, prior)
	parts := times(times(taken(whole(told), 0), whole(first)), whole(1<<16))
	return new(exact.Int).Div(parts, times(taken(whole(window), 1<<16), whole(second)))
}

func trueStep(est, prior, window, told int) int {
	sum := plus(taken(whole(est), 0), trueMore(est, prior, window, told))
	return int(taken(sum, 0).Int64())
}

// stirred is a row that looks like chance, and is the same each time.
func stirred(seed uint64) func(below int) int {
	return func(below int) int {
		seed = seed*6364136223846793005 + 1442695040888963407
		return int((seed >> 20) % uint64(below))
	}
}

// around are some numbers, and both neighbours of each.
func around(l ...int) []int {
	var all []int
	for _, n := range l {
		all = append(all, n-1, n, n+1)
	}
	return all
}

// edges are around 0, One and the greatest window, on both sides of 0, and up to both edges of 64 bits.
func edges() []int {
	l := around(0, one, 10*one, greatest, -one, -greatest, 1<<62, -1<<62)
	return append(l, 7, -7, most-1, most, fewest, fewest+1)
}

// windows are those that may be a window: at both ends, within, even and uneven.
func windows() []int {
	return []int{0, 1, 2, 100, one - 1, one, one + 1, 2 * one, 3*one + 7, 10 * one, 1000*one + 1, greatest / 17 * 9, greatest / 2, greatest - one, greatest - part, greatest - 1, greatest}
}

// P13.1: est just below, at, and just above prior, of both signs, and at both edges.
func TestPart(t *testing.T) {
	for _, c := range []struct{ est, prior, first, second int }{
		{0, 0, 1, 1},
		{0, 1, 9, 17},
		{1, 0, 1, 1},
		{-1, 0, 9, 17},
		{0, -1, 1, 1},
		{-1, 1, 9, 17},
		{1, -1, 1, 1},
		{9, 10, 9, 17},
		{10, 10, 1, 1},
		{11, 10, 1, 1},
		{10*one - 1, 10 * one, 9, 17},
		{10 * one, 10 * one, 1, 1},
		{10*one + 1, 10 * one, 1, 1},
		{greatest - 1, greatest, 9, 17},
		{greatest, greatest, 1, 1},
		{greatest + 1, greatest, 1, 1},
		{greatest, greatest + 1, 9, 17},
		{greatest + 1, greatest + 2, 9, 17},
		{greatest + 2, greatest + 2, 1, 1},
		{-11, -10, 9, 17},
		{-10, -10, 1, 1},
		{-9, -10, 1, 1},
		{-greatest - 1, -greatest, 9, 17},
		{-greatest, -greatest, 1, 1},
		{-greatest, -greatest - 1, 1, 1},
		{most - 1, most, 9, 17},
		{most, most, 1, 1},
		{most, most - 1, 1, 1},
		{fewest, fewest, 1, 1},
		{fewest, fewest + 1, 9, 17},
		{fewest + 1, fewest, 1, 1},
		{fewest, most, 9, 17},
		{most, fewest, 1, 1},
		{fewest, -1, 9, 17},
		{fewest, 0, 9, 17},
		{fewest, 1, 9, 17},
		{-1, fewest, 1, 1},
		{0, fewest, 1, 1},
		{1, fewest, 1, 1},
		{most, -1, 1, 1},
		{most, 0, 1, 1},
		{-1, most, 9, 17},
		{0, most, 9, 17},
	} {
		holdPart(t, c.est, c.prior, c.first, c.second)
	}
}

func holdPart(t *testing.T, est, prior, first, second int) {
	t.Helper()
	if a, b := reno.Part(est, prior); a != first || b != second {
		t.Fatalf("Part(%d, %d): %d, %d, not %d, %d", est, prior, a, b, first, second)
	}
}

// P13.1: all edges beside each other, neighbours, and far ones.
func TestPartAsTheWords(t *testing.T) {
	next := stirred(13)
	l := append(edges(), windows()...)
	for range 100 {
		l = append(l, next(1<<62), -next(1<<62), next(greatest), -next(greatest), next(20)-10)
	}
	for _, est := range l {
		for _, prior := range l {
			first, second := truePart(est, prior)
			holdPart(t, est, prior, first, second)
		}
	}
}

// P13.2: each of the four at each edge that the chapter names, the others within.
func TestStep(t *testing.T) {
	for _, c := range []struct{ est, prior, window, told, want int }{
		{10 * one, 8 * one, 10 * one, 10 * one, 11 * one},

		{10*one - 1, 10 * one, 10 * one, 10 * one, 10*one - 1 + part},
		{10 * one, 10 * one, 10 * one, 10 * one, 11 * one},
		{10*one + 1, 10 * one, 10 * one, 10 * one, 11*one + 1},
		{7 * one, 10 * one, 10 * one, 10 * one, 7*one + part},
		{0, 1, 10 * one, 10 * one, part},
		{0, 0, 10 * one, 10 * one, one},
		{0, -1, 10 * one, 10 * one, one},

		{-5, -4, 10 * one, 10 * one, part},
		{-5, -5, 10 * one, 10 * one, one},
		{-5, -6, 10 * one, 10 * one, one},
		{-5, 0, 10 * one, 10 * one, part},
		{-1, 0, 10 * one, 10 * one, part},
		{-1, -1, 10 * one, 10 * one, one},
		{fewest, fewest, 10 * one, 10 * one, one},
		{fewest, fewest + 1, 10 * one, 10 * one, part},
		{fewest + 1, fewest, 10 * one, 10 * one, one},
		{fewest, most, 10 * one, 10 * one, part},
		{-greatest, -greatest + 1, 10 * one, 0, 0},

		{greatest, greatest + 1, 10 * one, 10 * one, greatest},
		{greatest + 1, greatest + 2, 10 * one, 10 * one, greatest},
		{greatest + 1, greatest, 10 * one, 10 * one, greatest},
		{greatest + 1, greatest, 10 * one, 0, greatest},
		{most, most, 10 * one, 10 * one, greatest},
		{most, fewest, 10 * one, 0, greatest},
		{most - 1, most, 10 * one, -1, greatest},
		{greatest - part, greatest + 1, one, one, greatest},
		{greatest - part - 1, greatest + 1, one, one, greatest - 1},
		{greatest - part + 1, greatest + 1, one, one, greatest},
		{greatest - one, greatest - one, one, one, greatest},
		{greatest - one - 1, 0, one, one, greatest - 1},
		{greatest - one + 1, 0, one, one, greatest},
		{greatest - 1, 0, one, 0, greatest - 1},
		{greatest - 1, 0, one, 1, greatest},
		{greatest - 1, 0, one, 2, greatest},
		{greatest - 1, greatest, one, 1, greatest - 1},
		{greatest - 1, greatest, one, 2, greatest},
		{greatest, 0, one, 1, greatest},

		{5 * one, 0, -1, one, 6 * one},
		{5 * one, 0, 0, one, 6 * one},
		{5 * one, 0, 1, one, 6 * one},
		{5 * one, 0, one - 1, one, 6 * one},
		{5 * one, 0, one, one, 6 * one},
		{5 * one, 0, one + 1, one, 6*one - 1},
		{5 * one, 0, 2 * one, one, 5*one + one/2},
		{5 * one, 0, fewest, one, 6 * one},
		{5 * one, 9 * one, -1, one, 5*one + part},
		{5 * one, 9 * one, 0, one, 5*one + part},
		{5 * one, 9 * one, one - 1, one, 5*one + part},
		{5 * one, 9 * one, one, one, 5*one + part},
		{5 * one, 9 * one, one + 1, one, 5*one + part},
		{5 * one, 9 * one, one + 2, one, 5*one + part - 1},
		{5 * one, 0, greatest - 1, greatest, 6 * one},
		{5 * one, 0, greatest, greatest, 6 * one},
		{5 * one, 0, greatest + 1, greatest, 6 * one},
		{5 * one, 0, greatest * 2, greatest, 6 * one},
		{5 * one, 0, most, greatest, 6 * one},
		{5 * one, 0, greatest, 10 * one, 5 * one},
		{5 * one, 0, greatest, 16 * one, 5*one + 1},
		{5 * one, 0, greatest + 1, 16 * one, 5*one + 1},
		{5 * one, 0, most, 16 * one, 5*one + 1},
		{5 * one, 0, greatest, 16*one - 1, 5 * one},
		{5 * one, 0, greatest - 1, 16*one - 1, 5 * one},
		{5 * one, 0, greatest / 2, 8 * one, 5*one + 1},
		{5 * one, 0, greatest/2 + 1, 8 * one, 5 * one},

		{5 * one, 0, 10 * one, fewest, 5 * one},
		{5 * one, 0, 10 * one, -10 * one, 5 * one},
		{5 * one, 0, 10 * one, -11, 5 * one},
		{5 * one, 0, 10 * one, -1, 5 * one},
		{5 * one, 0, 10 * one, 0, 5 * one},
		{5 * one, 0, 10 * one, 1, 5 * one},
		{5 * one, 0, 10 * one, 9, 5 * one},
		{5 * one, 0, 10 * one, 10, 5*one + 1},
		{5 * one, 0, 10 * one, 11, 5*one + 1},
		{5 * one, 0, one, 1, 5*one + 1},
		{5 * one, 9 * one, one, 1, 5 * one},
		{5 * one, 9 * one, one, 2, 5*one + 1},
		{5 * one, 9 * one, one, 16, 5*one + 8},
		{5 * one, 9 * one, one, 17, 5*one + 9},
		{5 * one, 9 * one, one, 18, 5*one + 9},
		{5 * one, 9 * one, 10 * one, 18, 5 * one},
		{5 * one, 9 * one, 10 * one, 19, 5*one + 1},
		{5 * one, 9 * one, 10 * one, -19, 5 * one},
		{5 * one, 0, 10 * one, 10*one - 1, 6*one - 1},
		{5 * one, 0, 10 * one, 10*one + 1, 6 * one},
		{5 * one, 0, 10 * one, 10*one + 10, 6*one + 1},
		{5 * one, 0, 10 * one, 20 * one, 7 * one},
		{5 * one, 9 * one, 17 * one, 17 * one, 5*one + part},
		{5 * one, 9 * one, 10 * one, 340 * one, 23 * one},
		{5 * one, 99 * one, 10 * one, 170 * one, 14 * one},
		{5 * one, 0, 1024 * one, greatest - 1, 1029*one - 1},
		{5 * one, 0, 1024 * one, greatest, 1029 * one},
		{5 * one, 0, 1024 * one, greatest + 1, 1029 * one},
		{5 * one, 0, 1024 * one, 2 * greatest, 1029 * one},
		{5 * one, 0, 1024 * one, most, 1029 * one},
		{0, 1, one, greatest - 1, 36380899447},
		{0, 1, one, greatest, 36380899448},
		{0, 1, one, greatest + 1, 36380899448},
		{0, 1, one, most, 36380899448},
		{0, 0, one, greatest - 1, greatest - 1},
		{0, 0, one, greatest, greatest},
		{0, 0, one, greatest + 1, greatest},
		{1, 0, one, greatest - 1, greatest},
		{1, 0, one, greatest, greatest},
		{0, 0, 0, most, greatest},

		{-1, 0, 10 * one, 0, 0},
		{-one, 5 * one, 10 * one, 10 * one, part},
		{-one, -2 * one, 10 * one, 10 * one, one},
		{fewest, 0, 10 * one, 0, 0},
		{1, 0, 10 * one, 0, 1},
		{0, 0, 10 * one, 0, 0},

		{fewest, fewest, fewest, fewest, 0},
		{most, most, most, most, greatest},
		{fewest, fewest, most, most, one},
		{fewest, most, most, most, part},
		{fewest, most, fewest, most, 36380899448},
		{fewest, fewest, fewest, most, greatest},
		{most, fewest, fewest, fewest, greatest},
		{0, most, most, fewest, 0},
		{0, fewest, most, most, one},
	} {
		if trueStep(c.est, c.prior, c.window, c.told) != c.want {
			t.Errorf("%d is not what %d, %d, %d and %d tell", c.want, c.est, c.prior, c.window, c.told)
		}
		holdStep(t, c.est, c.prior, c.window, c.told)
	}
}

func holdStep(t *testing.T, est, prior, window, told int) {
	t.Helper()
	if n, want := reno.Step(est, prior, window, told), trueStep(est, prior, window, told); n != want {
		t.Errorf("Step(%d, %d, %d, %d): %d, not %d", est, prior, window, told, n, want)
	}
}

// priors are those around est, and far from it, on both sides; none of them goes round.
func priors(est int) []int {
	l := []int{fewest, 0, greatest, most, est}
	if est > fewest {
		l = append(l, est-1)
	}
	if est < most {
		l = append(l, est+1)
	}
	return l
}

// P13.2: all edges of all four beside each other, in true numbers.
func TestStepAsTheTrueNumber(t *testing.T) {
	ends := edges()
	for _, est := range append(windows(), ends...) {
		for _, prior := range priors(est) {
			for _, window := range ends {
				for _, told := range ends {
					holdStep(t, est, prior, window, told)
				}
			}
		}
	}
}

// P13.2: windows within, short and long, what is told of a byte up to many windows, in true numbers.
func TestStepWithinAsTheTrueNumber(t *testing.T) {
	next := stirred(131)
	for range 40000 {
		est, window := next(greatest), next(greatest)+1
		for _, prior := range []int{est - next(one), est, est + next(one) + 1} {
			holdStep(t, est, prior, window, next(window))
			holdStep(t, est, prior, window, next(greatest))
			holdStep(t, est, prior, next(20*one), next(20*one))
			holdStep(t, est, prior, next(20*one), next(1500))
		}
	}
}

// growsTo is the least that is to be told for n parts more: the least one that, times the first number and One, is at least n times the divisor.
func growsTo(n, first, second, window int) int {
	to := times(whole(n), times(whole(window), whole(second)))
	low, high := 0, greatest
	for low < high {
		told := low + (high-low)/2
		if times(whole(told), whole(first*one)).Cmp(to) < 0 {
			low = told + 1
		} else {
			high = told
		}
	}
	return low
}

// P13.2: just below, at, and just above what is to be told for so many parts more: those products divide evenly, or leave most, or little.
func TestStepWhereItGrows(t *testing.T) {
	next := stirred(132)
	l := []int{one, one + 1, 2 * one, 3*one + 7, 10 * one, 17 * one, greatest / 17, greatest/2 - 1, greatest - 1, greatest}
	for range 200 {
		l = append(l, one+next(50*one), one+next(greatest-one))
	}
	for _, window := range l {
		for _, n := range []int{1, 2, 8, 9, 10, 17, 18, one / 2, part, next(part) + 1} {
			for _, prior := range []int{0, one} {
				first, second := truePart(0, prior)
				told := growsTo(n, first, second, window)
				if told == greatest {
					continue
				}
				for by := -2; by <= 2; by++ {
					holdStep(t, 0, prior, window, told+by)
				}
				before, at := reno.Step(0, prior, window, told-1), reno.Step(0, prior, window, told)
				if before >= n || at < n {
					t.Fatalf("of %d, %d tells %d and %d more %d, for %d", window, told-1, before, 1, at, n)
				}
			}
		}
	}
}

// oneByOne is P13.3 by its words.
func oneByOne(est, prior, window int, told []int) int {
	for i := range len(told) {
		est = reno.Step(est, prior, window, told[i])
	}
	return est
}

// P13.3: of none est itself, as it is, at both edges too.
func TestStepsOfNone(t *testing.T) {
	lists := [][]int{nil, {}, make([]int, 0, 5), []int{1, 2, 3}[:0]}
	for _, est := range append(edges(), windows()...) {
		for _, prior := range priors(est) {
			for _, window := range []int{fewest, 0, 10 * one, most} {
				for _, told := range lists {
					if n := reno.Steps(est, prior, window, told); n != est {
						t.Fatalf("Steps(%d, %d, %d) of none: %d", est, prior, window, n)
					}
				}
			}
		}
	}
}

// P13.3: of one, and of many; est comes to prior on the way, and grows by a whole part from there.
func TestSteps(t *testing.T) {
	for _, c := range []struct {
		est, prior, window int
		told               []int
		want               int
	}{
		{10 * one, 8 * one, 10 * one, []int{10 * one}, 11 * one},
		{10 * one, 8 * one, 10 * one, []int{10 * one, 10 * one}, 12 * one},
		{10 * one, 8 * one, 10 * one, []int{one, one, one, one, one, one, one, one, one, one}, 11*one - 6},
		{10 * one, 8 * one, 10 * one, []int{0}, 10 * one},
		{10 * one, 8 * one, 10 * one, []int{0, 0, 0}, 10 * one},
		{10 * one, 8 * one, 10 * one, []int{-1, 0, -one, fewest}, 10 * one},
		{10 * one, 8 * one, 10 * one, []int{9, 9, 9}, 10 * one},
		{10 * one, 8 * one, 10 * one, []int{10, 9, 11, 27}, 10*one + 4},
		{10 * one, 8 * one, 10 * one, []int{5 * one, -5 * one, 5 * one}, 11 * one},

		{7 * one, 8 * one, 10 * one, []int{10 * one}, 7*one + part},
		{7 * one, 8 * one, 10 * one, []int{10 * one, 10 * one}, 7*one + 2*part},
		{7 * one, 8 * one, 10 * one, []int{10 * one, 10 * one, 10 * one}, 8*one + 2*part},
		{7 * one, 8 * one, 10 * one, []int{10 * one, 10 * one, 0, 10 * one, 10 * one}, 9*one + 2*part},
		{7 * one, 7*one + part, 10 * one, []int{10 * one, 10 * one}, 8*one + part},
		{7 * one, 7*one + part + 1, 10 * one, []int{10 * one, 10 * one}, 7*one + 2*part},
		{7 * one, 7*one + 1, one, []int{1, 1, 1}, 7 * one},
		{7 * one, 7*one + 1, one, []int{1, 2, 1}, 7*one + 2},
		{7 * one, 7*one + 2, one, []int{2, 2, 2}, 7*one + 4},

		{0, 0, one, []int{greatest, one}, greatest},
		{0, 0, one, []int{most}, greatest},
		{0, 0, one, []int{most, fewest, most}, greatest},
		{0, 0, one, []int{greatest - 1, 0, 1}, greatest},
		{0, 0, one, []int{greatest - 1, 0, -1}, greatest - 1},
		{0, 0, 1024 * one, []int{greatest + 1, greatest, -greatest, most}, 3072 * one},
		{0, 1, 1024 * one, []int{greatest + 1, most}, 1024*one + 35528222},
		{0, most, one, []int{greatest, greatest}, greatest},
		{0, most, one, []int{greatest, 0}, 36380899448},

		{-5, 0, 10 * one, []int{0}, 0},
		{-5, 0, 10 * one, []int{-1}, 0},
		{-5, 0, 10 * one, []int{10 * one}, part},
		{-5, 0, 10 * one, []int{10 * one, 10 * one}, one + part},
		{-5, 0, 10 * one, []int{0, 10 * one}, one},
		{-5, -5, 10 * one, []int{10 * one}, one},
		{fewest, fewest, fewest, []int{fewest}, 0},
		{fewest, most, most, []int{most, most}, 2 * part},
		{greatest + 5, 0, one, []int{0}, greatest},
		{greatest + 5, greatest + 6, one, []int{one, one}, greatest},
		{most, most, most, []int{fewest}, greatest},
	} {
		if n := reno.Steps(c.est, c.prior, c.window, c.told); n != c.want {
			t.Errorf("Steps(%d, %d, %d, %v): %d, not %d", c.est, c.prior, c.window, c.told, n, c.want)
		}
		holdSteps(t, c.est, c.prior, c.window, c.told)
	}
}

// holdSteps holds Steps against Step, and against the words in true numbers, of every beginning of told.
func holdSteps(t *testing.T, est, prior, window int, told []int) {
	t.Helper()
	want := est
	for i := range len(told) + 1 {
		n := reno.Steps(est, prior, window, told[:i])
		if n != want || n != oneByOne(est, prior, window, told[:i]) {
			t.Fatalf("Steps(%d, %d, %d, %v): %d, not %d", est, prior, window, told[:i], n, want)
		}
		if i < len(told) {
			want = trueStep(want, prior, window, told[i])
		}
	}
}

// P13.3: long lists, with what is told below 0 and above the greatest among them; est comes to prior on the way in many.
func TestStepsAsStepOneByOne(t *testing.T) {
	next := stirred(133)
	crossed := 0
	for range 3000 {
		window := one + next(40*one)
		est, prior := next(20*one), next(20*one)
		told := make([]int, next(30)+1)
		for i := range told {
			told[i] = next(3*window) - window/2
			switch next(40) {
			case 0:
				told[i] = fewest + next(1<<62)
			case 1:
				told[i] = greatest + next(1<<62)
			}
		}
		holdSteps(t, est, prior, window, told)
		if est < prior && reno.Steps(est, prior, window, told) >= prior {
			crossed++
		}
	}
	for range 300 {
		l := append(edges(), windows()...)
		told := make([]int, 12)
		for i := range told {
			told[i] = l[next(len(l))]
		}
		holdSteps(t, l[next(len(l))], l[next(len(l))], l[next(len(l))], told)
	}
	if crossed < 300 {
		t.Errorf("only %d came to prior on the way", crossed)
	}
}

// P13.3: a list may be parted anywhere: what follows goes on from what the first part told.
func TestStepsOfPartedLists(t *testing.T) {
	told := []int{10 * one, 3, -1, 0, most, fewest, one, 7*one + 3, 40 * one, greatest}
	for _, est := range []int{-5, 0, 7 * one, 10 * one, greatest, most} {
		for _, prior := range []int{-5, 0, 8 * one, greatest, most} {
			all := reno.Steps(est, prior, 100*one, told)
			for i := range len(told) + 1 {
				n := reno.Steps(est, prior, 100*one, told[:i])
				if n = reno.Steps(n, prior, 100*one, told[i:]); n != all {
					t.Fatalf("Steps(%d, %d), parted at %d: %d, not %d", est, prior, i, n, all)
				}
			}
		}
	}
}

// R3: the list is left as it was, its spare room included.
func TestListIsLeftAsItWas(t *testing.T) {
	room := []int{-1, 10 * one, most, 5, 99, fewest, 77, 88}
	before := slices.Clone(room)
	for end := range len(room) + 1 {
		for _, est := range []int{-5, 0, 7 * one, greatest, most} {
			reno.Steps(est, 8*one, 10*one, room[:end])
			if !slices.Equal(room, before) {
				t.Fatalf("Steps of %d: %v", end, room)
			}
		}
	}
}

// P13.4: of an est in its bounds it never falls, whatever the others are; and it leaves its bounds with none.
func TestNeverFalls(t *testing.T) {
	l := append(edges(), windows()...)
	for _, est := range l {
		for _, prior := range priors(est) {
			for _, window := range l {
				for _, told := range l {
					n := reno.Step(est, prior, window, told)
					if n < 0 || n > greatest {
						t.Fatalf("Step(%d, %d, %d, %d): %d", est, prior, window, told, n)
					}
					if n < est && est >= 0 && est <= greatest {
						t.Fatalf("Step(%d, %d, %d, %d): %d, less", est, prior, window, told, n)
					}
				}
			}
		}
	}
}

// P13.4: over long rows, too, it never falls, and where there is room it grows up to the greatest window.
func TestNeverFallsOverRows(t *testing.T) {
	next := stirred(134)
	for range 50 {
		window := next(30 * one)
		est, prior := next(10*one), next(20*one)
		for range 500 {
			told := next(2*window+3) - 2
			n := reno.Step(est, prior, window, told)
			if n < est {
				t.Fatalf("Step(%d, %d, %d, %d): %d, less", est, prior, window, told, n)
			}
			est = n
		}
	}
	if n := reno.Steps(0, greatest, one, slices.Repeat([]int{greatest / 4}, 8)); n != greatest {
		t.Errorf("8 quarters: %d", n)
	}
}

// P13.4: a whole window told of at once, neighbouring windows and far ones: one segment at most, and nine of seventeen parts of it less one part at least.
func TestWholeWindowAtOnce(t *testing.T) {
	next := stirred(135)
	var l []int
	for by := range 700 {
		l = append(l, one+by, 10*one-350+by, greatest/17-350+by, greatest/2-350+by, greatest-by)
	}
	for range 5000 {
		l = append(l, one+next(greatest-one+1), one+next(200*one))
	}
	for _, window := range l {
		for _, est := range []int{0, 1, window / 2, greatest - one} {
			for _, prior := range []int{0, est - 1, est, est + 1, greatest} {
				holdWholeWindow(t, est, prior, window)
			}
		}
	}
}

// holdWholeWindow wants an est that has room for one segment more.
func holdWholeWindow(t *testing.T, est, prior, window int) {
	t.Helper()
	more := reno.Step(est, prior, window, window) - est
	if more > one || 17*(more+1) < 9*one {
		t.Fatalf("Step(%d, %d, %d, %d): %d more", est, prior, window, window, more)
	}
	if exactly := map[bool]int{true: part, false: one}[est < prior]; more != exactly {
		t.Fatalf("Step(%d, %d, %d, %d): %d more, not %d", est, prior, window, window, more, exactly)
	}
}

// P13.4: where there is no room for it, a whole window adds what is left up to the greatest one, and no more.
func TestWholeWindowBelowTheGreatest(t *testing.T) {
	for _, window := range []int{one, one + 1, 10 * one, greatest} {
		for room := range one + 2 {
			est := greatest - room
			if more := reno.Step(est, 0, window, window) - est; more != min(room, one) {
				t.Fatalf("Step(%d, 0, %d): %d more", est, window, more)
			}
			if more := reno.Step(est, most, window, window) - est; more != min(room, part) {
				t.Fatalf("Step(%d, most, %d): %d more", est, window, more)
			}
		}
	}
}

// P13.4: a whole window that is told of piece by piece adds one segment at most, and loses less than one part a piece.
func TestWholeWindowInPieces(t *testing.T) {
	next := stirred(136)
	for range 3000 {
		window, est := one+next(30*one), next(20*one)
		prior := est + next(2*one) - one
		var told []int
		for left := window; left > 0; {
			n := min(left, next(window/4)+1)
			told, left = append(told, n), left-n
		}
		more := reno.Steps(est, prior, window, told) - est
		if more > one || 17*(more+len(told)) < 9*one {
			t.Fatalf("Steps(%d, %d, %d, %v): %d more", est, prior, window, told, more)
		}
	}
}

// The chapter's example, in segments.
func TestExample(t *testing.T) {
	if n := reno.Step(10*one, 8*one, 10*one, 10*one); n != 11*one {
		t.Errorf("%d", n)
	}
}

// R4: what is answered hangs on the arguments alone: the same each time, whatever was asked between.
func TestSameAnswerEachTime(t *testing.T) {
	told := []int{10 * one, most, -3}
	for range 20 {
		reno.Part(most, fewest)
		reno.Step(fewest, most, 0, greatest)
		reno.Steps(most, 0, 7, []int{1, 2, fewest})
		first, second := reno.Part(9, 10)
		step, steps := reno.Step(7*one, 8*one, 10*one, 10*one), reno.Steps(7*one, 8*one, greatest, told)
		if first != 9 || second != 17 || step != 7*one+part || steps != 7*one+part {
			t.Fatalf("%d, %d, %d, %d", first, second, step, steps)
		}
	}
}
