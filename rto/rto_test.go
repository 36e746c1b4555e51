package rto_test

import (
	"math"
	exact "math/big"
	"slices"
	"testing"

	"sawtooth/api"
	"sawtooth/rto"
	"sawtooth/rtt"
)

const (
	most     = math.MaxInt64
	least    = math.MinInt64
	longest  = 1 << 40
	highMean = 8 * api.MaxRtt
	highFar  = 4 * api.MaxRtt
)

func has(mean, far int) api.Rtt { return api.Rtt{Has: true, Mean: mean, Far: far} }

// keeps is a configuration with all that a timeout hangs on; its other fields are such as would be seen, if they counted.
func keeps(grain, low, great int) api.Config {
	return api.Config{Seg: -1, Max: most, First: least, Grain: grain, Least: low, Great: great, Burst: 7}
}

// bounds are what Grain, Least and Great may be, and what they must not be, at the edges that the chapter names, and at those of 64 bits.
func bounds() []int {
	return []int{least, -1, 0, 1, 2, 999999, 1000000, 1000001, longest - 1, longest, longest + 1, most}
}

// whatIsKnown is nothing, what may be, at both ends, and what may not be.
func whatIsKnown() []api.Rtt {
	return []api.Rtt{
		{},
		has(8, 0), has(8, 1), has(15, 3), has(800, 200), has(900, 213), has(800000, 50000), has(8, highFar), has(highMean, 0), has(highMean, highFar),
		has(0, 0), has(7, 0), has(8, -1), has(highMean+1, 0), has(8, highFar+1), has(most, most), has(least, least), has(most, 0), has(8, least),
		{Mean: 8}, {Far: 1}, {Mean: 800, Far: 200}, {Mean: most, Far: most}, {Mean: least, Far: least},
	}
}

// timesTold are numbers of doublings around all at which a timeout may become the greatest one, and the edges.
func timesTold() []int {
	l := []int{least, least + 1, -longest, -41, -2, -1, 61, 62, 63, 64, 65, 127, 128, 1 << 20, 1 << 31, 1 << 32, longest, 1 << 62, most - 1, most}
	for n := range 45 {
		l = append(l, n)
	}
	return l
}

// counts is as the chapter's words say it.
func counts(n int) int {
	switch {
	case n < 1:
		return 1
	case n > longest:
		return longest
	}
	return n
}

// trueBase is P7.1 in true numbers.
func trueBase(r api.Rtt, c api.Config) *exact.Int {
	if !rtt.Check(r) || !r.Has {
		return exact.NewInt(api.Second)
	}
	more := exact.NewInt(int64(counts(c.Grain)))
	if far := exact.NewInt(int64(r.Far)); far.Cmp(more) > 0 {
		more = far
	}
	return more.Add(more, exact.NewInt(int64(rtt.Mean(r))))
}

// trueOf is P7.1 in true numbers, which are bounded by the greatest timeout only at the end: 64 doublings are more than enough to be above it.
func trueOf(r api.Rtt, c api.Config, times int) *exact.Int {
	low, great := exact.NewInt(int64(counts(c.Least))), exact.NewInt(int64(counts(c.Great)))
	n := trueBase(r, c)
	if n.Cmp(low) < 0 {
		n = low
	}
	n = new(exact.Int).Lsh(n, uint(min(max(times, 0), 64)))
	if n.Cmp(great) > 0 {
		n = great
	}
	return n
}

// everyConfig calls try with all bounds, each beside each other, for all that may be known, or not.
func everyConfig(try func(r api.Rtt, c api.Config)) {
	for _, r := range whatIsKnown() {
		for _, grain := range bounds() {
			for _, low := range bounds() {
				for _, great := range bounds() {
					try(r, keeps(grain, low, great))
				}
			}
		}
	}
}

// P7.1: a Second of nothing, and of what may not be; else the mean, and the greater one of the grain and Far.
func TestBase(t *testing.T) {
	for _, c := range []struct {
		r     api.Rtt
		grain int
		want  int
	}{
		{api.Rtt{}, 0, 1000000},
		{api.Rtt{}, 5000000, 1000000},
		{api.Rtt{}, most, 1000000},
		{api.Rtt{Mean: 800}, 1, 1000000},
		{api.Rtt{Far: 200}, 1, 1000000},
		{api.Rtt{Mean: 800, Far: 200}, 1, 1000000},
		{has(0, 0), 1, 1000000},
		{has(7, 0), 1, 1000000},
		{has(800, -1), 1, 1000000},
		{has(highMean+1, 0), 1, 1000000},
		{has(800, highFar+1), 1, 1000000},
		{has(most, most), most, 1000000},
		{has(least, least), least, 1000000},
		{has(800, 200), 199, 300},
		{has(800, 200), 200, 300},
		{has(800, 200), 201, 301},
		{has(800, 200), 50, 300},
		{has(807, 203), 1, 303},
		{has(808, 203), 1, 304},
		{has(8, 0), 1, 2},
		{has(8, 1), 1, 2},
		{has(8, 2), 1, 3},
		{has(15, 0), 2, 3},
		{has(8, 0), 0, 2},
		{has(8, 0), -1, 2},
		{has(8, 0), -longest, 2},
		{has(8, 0), least, 2},
		{has(8, 0), longest - 1, longest},
		{has(8, 0), longest, longest + 1},
		{has(8, 0), longest + 1, longest + 1},
		{has(8, 0), most, longest + 1},
		{has(8, highFar), 1, 1<<32 + 1},
		{has(8, highFar), highFar - 1, 1<<32 + 1},
		{has(8, highFar), highFar + 1, 1<<32 + 2},
		{has(highMean, 0), 0, 1<<30 + 1},
		{has(highMean, highFar), 0, 5 << 30},
		{has(highMean, highFar), most, longest + 1<<30},
		{has(highMean-1, highFar-1), 0, 5<<30 - 2},
	} {
		if n := rto.Base(c.r, keeps(c.grain, 1, 1)); n != c.want {
			t.Errorf("Base(%v, grain %d): %d, not %d", c.r, c.grain, n, c.want)
		}
	}
}

// P7.1: Base hangs on the grain alone: neither the bounds nor any other field of a configuration counts.
func TestBaseOfTheGrainAlone(t *testing.T) {
	everyConfig(func(r api.Rtt, c api.Config) {
		if n := rto.Base(r, c); trueBase(r, c).Cmp(exact.NewInt(int64(n))) != 0 {
			t.Fatalf("Base(%v, %v): %d", r, c, n)
		}
		if n, plain := rto.Base(r, c), rto.Base(r, api.Config{Grain: c.Grain}); n != plain {
			t.Fatalf("Base(%v, %v): %d, but %d of its grain alone", r, c, n, plain)
		}
	})
}

// P7.1, and the chapter's example: at least the least timeout, and at most the greatest one, which counts if both can't be; each doubling too is at most that.
func TestOf(t *testing.T) {
	for _, c := range []struct {
		r                 api.Rtt
		low, great, times int
		want              int
	}{
		{api.Rtt{}, 200000, 60000000, 2, 4000000},
		{api.Rtt{}, 200000, longest, 2, 4000000},
		{api.Rtt{}, 200000, most, 0, 1000000},
		{api.Rtt{}, 200000, most, -1, 1000000},
		{api.Rtt{}, 200000, most, least, 1000000},
		{api.Rtt{}, 200000, most, 1, 2000000},
		{api.Rtt{}, 999999, most, 0, 1000000},
		{api.Rtt{}, 1000000, most, 0, 1000000},
		{api.Rtt{}, 1000001, most, 0, 1000001},
		{api.Rtt{}, 1000001, most, 1, 2000002},
		{api.Rtt{}, 1, 999999, 0, 999999},
		{api.Rtt{}, 1, 1000000, 0, 1000000},
		{api.Rtt{}, 1, 1000001, 0, 1000000},
		{api.Rtt{}, 1, 1000001, 1, 1000001},
		{api.Rtt{}, 1, 4000000, 1, 2000000},
		{api.Rtt{}, 1, 4000000, 2, 4000000},
		{api.Rtt{}, 1, 4000000, 3, 4000000},
		{api.Rtt{}, 1, 3999999, 2, 3999999},
		{api.Rtt{}, 1, 4000001, 2, 4000000},
		{api.Rtt{}, 1, 4000001, 3, 4000001},
		{api.Rtt{}, 1, 4000000, most, 4000000},
		{api.Rtt{}, 1, 4000000, most - 1, 4000000},
		{api.Rtt{}, 1, 4000000, least, 1000000},
		{has(800, 200), 200000, most, 0, 200000},
		{has(800, 200), 200000, most, 3, 1600000},
		{has(800, 200), 299, most, 0, 300},
		{has(800, 200), 300, most, 0, 300},
		{has(800, 200), 301, most, 0, 301},
		{has(800, 200), 1, 300, 5, 300},
		{has(800, 200), 1, 299, -5, 299},
		{has(8, 0), 0, most, 0, 2},
		{has(8, 0), 0, most, 39, longest},
		{has(8, 0), 0, most, 38, longest / 2},
		{has(8, 0), 0, most, 40, longest},
		{has(8, 0), 0, most, most, longest},
		{has(8, 0), 3, most, 38, 3 << 38},
		{has(8, 0), 3, most, 39, longest},
		{has(8, 0), 3, longest - 1, 39, longest - 1},
		{has(8, 0), least, least, 0, 1},
		{has(8, 0), 5, 0, 0, 1},
		{has(8, 0), 5, 0, 1, 1},
		{has(8, 0), 5, 0, most, 1},
		{has(8, 0), 5, 1, 0, 1},
		{has(8, 0), 5, 2, 0, 2},
		{has(8, 0), 5, 4, 0, 4},
		{has(8, 0), 5, 4, 9, 4},
		{has(8, 0), most, 4, 0, 4},
		{has(8, 0), most, most, 0, longest},
		{has(8, 0), longest, longest + 1, 1, longest},
		{has(8, 0), longest + 1, longest, 0, longest},
		{has(8, 0), longest - 1, longest, 0, longest - 1},
		{has(8, 0), longest - 1, longest, 1, longest},
		{has(highMean, highFar), 1, most, 0, 5 << 30},
		{has(highMean, highFar), 1, most, 7, 5 << 37},
		{has(highMean, highFar), 1, most, 8, longest},
		{has(highMean, highFar), 1, 1 << 30, 0, 1 << 30},
		{has(7, 0), 1, most, 1, 2000000},
	} {
		if n := rto.Of(c.r, keeps(0, c.low, c.great), c.times); n != c.want {
			t.Errorf("Of(%v, from %d to %d, %d): %d, not %d", c.r, c.low, c.great, c.times, n, c.want)
		}
	}
}

// P7.1: the grain counts in Of as well, and what is above 2^40 by it is bounded.
func TestOfWithAGrain(t *testing.T) {
	for _, c := range []struct {
		grain, times, want int
	}{
		{least, 0, 300},
		{200, 0, 300},
		{201, 0, 301},
		{1000, 0, 1100},
		{1000, 3, 8800},
		{longest - 101, 0, longest - 1},
		{longest - 100, 0, longest},
		{longest - 99, 0, longest},
		{longest, 0, longest},
		{most, 0, longest},
		{most, most, longest},
	} {
		if n := rto.Of(has(800, 200), keeps(c.grain, 1, most), c.times); n != c.want {
			t.Errorf("Of(grain %d, %d): %d, not %d", c.grain, c.times, n, c.want)
		}
	}
}

// P7.1: all bounds beside each other, with all numbers of doublings.
func TestOfInTrueNumbers(t *testing.T) {
	everyConfig(func(r api.Rtt, c api.Config) {
		for _, times := range timesTold() {
			if n := rto.Of(r, c, times); trueOf(r, c, times).Cmp(exact.NewInt(int64(n))) != 0 {
				t.Fatalf("Of(%v, %v, %d): %d", r, c, times, n)
			}
		}
	})
}

// P7.1: no other field of a configuration counts.
func TestOfOfNoOtherField(t *testing.T) {
	for _, times := range timesTold() {
		c := keeps(10, 200000, 60000000)
		other := api.Config{Grain: c.Grain, Least: c.Least, Great: c.Great}
		if a, b := rto.Of(has(800, 200), c, times), rto.Of(has(800, 200), other, times); a != b {
			t.Errorf("Of at %d: %d and %d", times, a, b)
		}
		if a, b := rto.Back(has(800, 200), c, times), rto.Back(has(800, 200), other, times); a != b {
			t.Errorf("Back at %d: %d and %d", times, a, b)
		}
	}
}

// P7.2: one more, till the greatest timeout is there; then the same; 0, if times is below 0.
func TestBack(t *testing.T) {
	for _, c := range []struct {
		r                 api.Rtt
		low, great, times int
		want              int
	}{
		{api.Rtt{}, 200000, 4000000, least, 0},
		{api.Rtt{}, 200000, 4000000, -2, 0},
		{api.Rtt{}, 200000, 4000000, -1, 0},
		{api.Rtt{}, 200000, 4000000, 0, 1},
		{api.Rtt{}, 200000, 4000000, 1, 2},
		{api.Rtt{}, 200000, 4000000, 2, 2},
		{api.Rtt{}, 200000, 4000000, 3, 3},
		{api.Rtt{}, 200000, 4000000, 1 << 40, 1 << 40},
		{api.Rtt{}, 200000, 4000000, most - 1, most - 1},
		{api.Rtt{}, 200000, 4000000, most, most},
		{api.Rtt{}, 200000, 4000001, 2, 3},
		{api.Rtt{}, 200000, 4000001, 3, 3},
		{api.Rtt{}, 200000, 3999999, 1, 2},
		{api.Rtt{}, 200000, 3999999, 2, 2},
		{api.Rtt{}, 200000, 1000000, 0, 0},
		{api.Rtt{}, 200000, 1000001, 0, 1},
		{api.Rtt{}, 200000, 999999, 0, 0},
		{api.Rtt{}, 200000, 0, 0, 0},
		{api.Rtt{}, 200000, least, 0, 0},
		{api.Rtt{}, 200000, least, 1, 1},
		{api.Rtt{}, 200000, least, most, most},
		{api.Rtt{}, 200000, least, -1, 0},
		{api.Rtt{}, most, 5, 0, 0},
		{api.Rtt{}, most, 5, -1, 0},
		{api.Rtt{}, most, most, 0, 0},
		{api.Rtt{}, longest - 1, most, 0, 1},
		{has(8, 0), 0, longest - 1, 39, 39},
		{has(8, 0), 0, longest, 38, 39},
		{has(8, 0), 0, longest, 39, 39},
		{has(8, 0), 0, longest + 1, 38, 39},
		{has(8, 0), 0, longest + 1, 39, 39},
		{has(8, 0), 0, most, 37, 38},
		{has(8, 0), 0, most, 38, 39},
		{has(8, 0), 0, most, 39, 39},
		{has(8, 0), 0, most, 40, 40},
		{has(7, 0), 0, 2000000, 0, 1},
		{has(7, 0), 0, 2000000, 1, 1},
	} {
		if n := rto.Back(c.r, keeps(0, c.low, c.great), c.times); n != c.want {
			t.Errorf("Back(%v, from %d to %d, %d): %d, not %d", c.r, c.low, c.great, c.times, n, c.want)
		}
	}
}

// P7.2: as its words say it, of the true timeout.
func TestBackAsTheWords(t *testing.T) {
	everyConfig(func(r api.Rtt, c api.Config) {
		for _, times := range timesTold() {
			want := times + 1
			switch {
			case times < 0:
				want = 0
			case trueOf(r, c, times).Cmp(exact.NewInt(int64(counts(c.Great)))) == 0:
				want = times
			}
			if n := rto.Back(r, c, times); n != want {
				t.Fatalf("Back(%v, %v, %d): %d, not %d", r, c, times, n, want)
			}
		}
	})
}

// P7.2: none, one, and many, in order.
func TestAll(t *testing.T) {
	c := keeps(0, 200000, 5000000)
	for _, l := range []struct{ times, want []int }{
		{nil, nil},
		{[]int{}, nil},
		{[]int{2}, []int{4000000}},
		{[]int{most}, []int{5000000}},
		{[]int{least}, []int{1000000}},
		{[]int{0, 1, 2, 3}, []int{1000000, 2000000, 4000000, 5000000}},
		{[]int{3, 2, 1, 0, -1}, []int{5000000, 4000000, 2000000, 1000000, 1000000}},
		{[]int{1, 1, 0, 1}, []int{2000000, 2000000, 1000000, 2000000}},
		{[]int{most, least, 1, most}, []int{5000000, 1000000, 2000000, 5000000}},
	} {
		if all := rto.All(api.Rtt{}, c, l.times...); !slices.Equal(all, l.want) {
			t.Errorf("All(%v): %v, not %v", l.times, all, l.want)
		}
	}
	if all := rto.All(api.Rtt{}, c); len(all) != 0 {
		t.Errorf("All of none: %v", all)
	}
	if all := rto.All(has(800, 200), c, 0, 5, 1); !slices.Equal(all, []int{200000, 5000000, 400000}) {
		t.Errorf("All of three: %v", all)
	}
}

// P7.2: each is as Of tells it.
func TestAllAsOf(t *testing.T) {
	times := timesTold()
	everyConfig(func(r api.Rtt, c api.Config) {
		all := rto.All(r, c, times...)
		if len(all) != len(times) {
			t.Fatalf("All(%v, %v): %d of %d", r, c, len(all), len(times))
		}
		for i, n := range all {
			if want := rto.Of(r, c, times[i]); n != want {
				t.Fatalf("All(%v, %v) at %d: %d, not %d", r, c, times[i], n, want)
			}
		}
	})
}

// P7.2, R3: what is handed in stays, its spare room too; what is written behind an answer is seen neither there nor in another answer.
func TestAllHasItsOwnMemory(t *testing.T) {
	handed, want := []int{0, 1, 2, -7, -8, -9}, []int{1000000, 2000000, 4000000}
	whole := slices.Clone(handed)
	c := keeps(0, 200000, 60000000)
	one := rto.All(api.Rtt{}, c, whole[:3]...)
	two := rto.All(api.Rtt{}, c, whole[:3]...)
	if !slices.Equal(whole, handed) {
		t.Errorf("handed in: %v", whole)
	}
	for i := range one[:cap(one)] {
		one[:cap(one)][i] = -1
	}
	if !slices.Equal(whole, handed) {
		t.Errorf("handed in, once its answer is written over: %v", whole)
	}
	for i := range whole {
		whole[i] = 9
	}
	if !slices.Equal(two, want) {
		t.Errorf("the other answer: %v", two)
	}
	if three := rto.All(api.Rtt{}, c, handed[:3]...); !slices.Equal(three, want) {
		t.Errorf("once more: %v", three)
	}
}

// P7.3: a timeout lies between both bounds; it is the greatest one if both can't be.
func TestBetweenBothBounds(t *testing.T) {
	everyConfig(func(r api.Rtt, c api.Config) {
		low, great := counts(c.Least), counts(c.Great)
		for _, times := range timesTold() {
			n := rto.Of(r, c, times)
			if n < min(low, great) || n > great {
				t.Fatalf("Of(%v, %v, %d): %d", r, c, times, n)
			}
			if low >= great && n != great {
				t.Fatalf("Of(%v, %v, %d): %d, not the greatest", r, c, times, n)
			}
		}
	})
}

// P7.3: more doublings make it more, till it is the greatest one, which comes, and stays.
func TestNoLessByMoreDoublings(t *testing.T) {
	everyConfig(func(r api.Rtt, c api.Config) {
		great := counts(c.Great)
		before := rto.Of(r, c, -1)
		if n := rto.Of(r, c, 0); n != before {
			t.Fatalf("Of(%v, %v, 0): %d, not %d", r, c, n, before)
		}
		for times := 1; times <= 42; times++ {
			n := rto.Of(r, c, times)
			if n <= before && before != great || before == great && n != great {
				t.Fatalf("Of(%v, %v, %d): %d behind %d", r, c, times, n, before)
			}
			before = n
		}
		for _, times := range []int{43, 1 << 32, 1 << 62, most} {
			if n := rto.Of(r, c, times); n != great || before != great {
				t.Fatalf("Of(%v, %v, %d): %d, not %d", r, c, times, n, great)
			}
		}
	})
}

// P7.2, P7.3: going back, again and again, comes to the greatest timeout in the fewest doublings, and stays there.
func TestBackAgainAndAgain(t *testing.T) {
	everyConfig(func(r api.Rtt, c api.Config) {
		great, times := counts(c.Great), 0
		for n := range 50 {
			if rto.Of(r, c, n) == great {
				break
			}
			times++
		}
		back := -5
		for range 50 {
			back = rto.Back(r, c, back)
		}
		if back != times {
			t.Fatalf("Back(%v, %v): %d, not %d", r, c, back, times)
		}
	})
}
