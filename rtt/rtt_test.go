package rtt_test

import (
	"math"
	exact "math/big"
	"testing"

	"sawtooth/api"
	"sawtooth/rtt"
)

const (
	most     = math.MaxInt64
	least    = math.MinInt64
	longest  = api.MaxRtt
	highMean = 8 * longest
	highFar  = 4 * longest
)

func has(mean, far int) api.Rtt { return api.Rtt{Has: true, Mean: mean, Far: far} }
func not(mean, far int) api.Rtt { return api.Rtt{Mean: mean, Far: far} }

// telling are numbers of both signs: around 0, around both ends of Mean and of Far and of a time, around halves of the edges, and the edges.
func telling() []int {
	var l []int
	for _, n := range []int{0, 3, 8, 100, 800, 1000003, longest, highFar, highMean, 2 * highMean, 1 << 62, most - 1} {
		for _, m := range []int{n - 1, n, n + 1} {
			l = append(l, m, -m)
		}
	}
	return append(l, least)
}

// may is as the chapter's words say it.
func may(r api.Rtt) bool {
	if r.Has {
		return r.Mean >= 8 && r.Mean <= highMean && r.Far >= 0 && r.Far <= highFar
	}
	return r.Mean == 0 && r.Far == 0
}

// whatMay are all of the telling numbers that may be together, and what is known of nothing.
func whatMay() []api.Rtt {
	l := []api.Rtt{{}}
	for _, mean := range telling() {
		for _, far := range telling() {
			if r := has(mean, far); may(r) {
				l = append(l, r)
			}
		}
	}
	return l
}

// times are all of the telling numbers that are times there and back.
func times() []int {
	var l []int
	for _, t := range telling() {
		if t >= 1 && t <= longest {
			l = append(l, t)
		}
	}
	return l
}

// P6.1: nothing may be known without Has; with it, what lies between both ends of Mean and of Far, and they themselves.
func TestCheck(t *testing.T) {
	for _, c := range []struct {
		r    api.Rtt
		want bool
	}{
		{not(0, 0), true},
		{not(1, 0), false},
		{not(-1, 0), false},
		{not(0, 1), false},
		{not(0, -1), false},
		{not(1, -1), false},
		{not(8, 0), false},
		{not(800, 200), false},
		{not(highMean, highFar), false},
		{not(most, 0), false},
		{not(least, 0), false},
		{not(0, most), false},
		{not(0, least), false},
		{not(least, least), false},
		{has(800, 200), true},
		{has(0, 0), false},
		{has(7, 0), false},
		{has(8, 0), true},
		{has(9, 0), true},
		{has(8, -1), false},
		{has(8, 1), true},
		{has(-8, 0), false},
		{has(highMean-1, 7), true},
		{has(highMean, 7), true},
		{has(highMean+1, 7), false},
		{has(800, -1), false},
		{has(800, 0), true},
		{has(800, highFar-1), true},
		{has(800, highFar), true},
		{has(800, highFar+1), false},
		{has(8, highFar), true},
		{has(7, highFar), false},
		{has(8, highFar+1), false},
		{has(highMean, 0), true},
		{has(highMean, highFar), true},
		{has(highMean+1, highFar), false},
		{has(highMean, highFar+1), false},
		{has(highMean, -1), false},
		{has(most, 0), false},
		{has(least, 0), false},
		{has(8, most), false},
		{has(8, least), false},
		{has(most, most), false},
		{has(least, least), false},
	} {
		if is := rtt.Check(c.r); is != c.want {
			t.Errorf("Check(%v): %v, not %v", c.r, is, c.want)
		}
	}
}

// P6.1: all numbers that tell, together, with Has and without.
func TestCheckAsTheWords(t *testing.T) {
	for _, mean := range telling() {
		for _, far := range telling() {
			for _, r := range []api.Rtt{has(mean, far), not(mean, far)} {
				if is := rtt.Check(r); is != may(r) {
					t.Errorf("Check(%v): %v", r, is)
				}
			}
		}
	}
}

// P6.1: the part behind the point is left out, above 0 and below it; what may not be has a mean too.
func TestMean(t *testing.T) {
	for _, c := range []struct{ mean, want int }{
		{0, 0},
		{1, 0},
		{7, 0},
		{8, 1},
		{9, 1},
		{15, 1},
		{16, 2},
		{-1, 0},
		{-7, 0},
		{-8, -1},
		{-9, -1},
		{-15, -1},
		{-16, -2},
		{799, 99},
		{800, 100},
		{801, 100},
		{-799, -99},
		{-800, -100},
		{-801, -100},
		{highMean - 1, longest - 1},
		{highMean, longest},
		{highMean + 7, longest},
		{highMean + 8, longest + 1},
		{most, 1<<60 - 1},
		{most - 7, 1<<60 - 1},
		{most - 8, 1<<60 - 2},
		{least, -1 << 60},
		{least + 1, -1<<60 + 1},
		{least + 8, -1<<60 + 1},
		{least + 9, -1<<60 + 2},
	} {
		for _, far := range []int{0, 5, -5, most, least} {
			if n := rtt.Mean(has(c.mean, far)); n != c.want {
				t.Errorf("Mean(%v): %d, not %d", has(c.mean, far), n, c.want)
			}
			if n := rtt.Mean(not(c.mean, far)); n != c.want {
				t.Errorf("Mean(%v): %d, not %d", not(c.mean, far), n, c.want)
			}
		}
	}
}

// P6.1: likewise by 4.
func TestFar(t *testing.T) {
	for _, c := range []struct{ far, want int }{
		{0, 0},
		{1, 0},
		{3, 0},
		{4, 1},
		{5, 1},
		{7, 1},
		{8, 2},
		{-1, 0},
		{-3, 0},
		{-4, -1},
		{-5, -1},
		{-7, -1},
		{-8, -2},
		{199, 49},
		{200, 50},
		{201, 50},
		{-199, -49},
		{-200, -50},
		{-201, -50},
		{highFar - 1, longest - 1},
		{highFar, longest},
		{highFar + 3, longest},
		{highFar + 4, longest + 1},
		{most, 1<<61 - 1},
		{most - 3, 1<<61 - 1},
		{most - 4, 1<<61 - 2},
		{least, -1 << 61},
		{least + 1, -1<<61 + 1},
		{least + 4, -1<<61 + 1},
		{least + 5, -1<<61 + 2},
	} {
		for _, mean := range []int{0, 5, -5, most, least} {
			if n := rtt.Far(has(mean, c.far)); n != c.want {
				t.Errorf("Far(%v): %d, not %d", has(mean, c.far), n, c.want)
			}
			if n := rtt.Far(not(mean, c.far)); n != c.want {
				t.Errorf("Far(%v): %d, not %d", not(mean, c.far), n, c.want)
			}
		}
	}
}

// P6.2: beside the error stands what was handed in, be it the time that may not be, what was known, or both.
func TestSampleRefused(t *testing.T) {
	mayNot := []api.Rtt{
		not(1, 0), not(0, 1), not(-1, 0), not(0, -1), not(800, 200), not(most, least),
		has(0, 0), has(7, 0), has(8, -1), has(highMean+1, 0), has(8, highFar+1), has(highMean, highFar+1), has(-800, 200),
		has(most, 0), has(least, 0), has(8, most), has(8, least), has(most, most), has(least, least),
	}
	noTime := []int{0, -1, -100, longest + 1, 2 * longest, highMean, most, least}
	refused := func(r api.Rtt, n int) {
		if got, err := rtt.Sample(r, n); got != r || err != api.ErrField {
			t.Errorf("Sample(%v, %d): %v, %v", r, n, got, err)
		}
	}
	for _, r := range mayNot {
		for _, n := range append(noTime, 1, 100, longest) {
			refused(r, n)
		}
	}
	for _, r := range []api.Rtt{not(0, 0), has(8, 0), has(800, 200), has(highMean, highFar)} {
		for _, n := range noTime {
			refused(r, n)
		}
	}
}

// P6.2: the first time is the mean, and strays by half of itself.
func TestFirstTime(t *testing.T) {
	for _, c := range []struct {
		t    int
		want api.Rtt
	}{
		{1, has(8, 2)},
		{2, has(16, 4)},
		{3, has(24, 6)},
		{100, has(800, 200)},
		{longest - 1, has(highMean-8, 2*longest-2)},
		{longest, has(highMean, 2*longest)},
	} {
		if r, err := rtt.Sample(api.Rtt{}, c.t); r != c.want || err != api.OK {
			t.Errorf("the first time %d: %v, %v, not %v", c.t, r, err, c.want)
		}
	}
}

// P6.2: times above, at, and below the mean, with parts behind the point in Mean, in Far, in both, and in none.
func TestSample(t *testing.T) {
	for _, c := range []struct {
		r    api.Rtt
		t    int
		want api.Rtt
	}{
		{has(800, 200), 100, has(800, 150)},
		{has(800, 200), 101, has(801, 151)},
		{has(800, 200), 99, has(799, 151)},
		{has(800, 200), 200, has(900, 250)},
		{has(800, 200), 1, has(701, 249)},
		{has(800, 150), 200, has(900, 213)},
		{has(807, 203), 100, has(807, 153)},
		{has(807, 203), 101, has(808, 154)},
		{has(807, 203), 99, has(806, 154)},
		{has(799, 199), 100, has(800, 151)},
		{has(799, 199), 99, has(799, 150)},
		{has(801, 201), 50, has(751, 201)},
		{has(800, 0), 100, has(800, 0)},
		{has(800, 3), 100, has(800, 3)},
		{has(800, 4), 100, has(800, 3)},
		{has(800, 0), 107, has(807, 7)},
		{has(800, 0), 93, has(793, 7)},
		{has(15, 1), 1, has(15, 1)},
		{has(16, 1), 1, has(15, 2)},
		{has(15, 1), 2, has(16, 2)},
	} {
		if r, err := rtt.Sample(c.r, c.t); r != c.want || err != api.OK {
			t.Errorf("Sample(%v, %d): %v, %v, not %v", c.r, c.t, r, err, c.want)
		}
	}
}

// P6.2: the least and the greatest of all three, together.
func TestSampleAtTheEnds(t *testing.T) {
	for _, c := range []struct {
		r    api.Rtt
		t    int
		want api.Rtt
	}{
		{has(8, 0), 1, has(8, 0)},
		{has(8, 0), longest, has(longest+7, longest-1)},
		{has(8, highFar), 1, has(8, 3*longest)},
		{has(8, highFar), longest, has(longest+7, highFar-1)},
		{has(highMean, 0), 1, has(7*longest+1, longest-1)},
		{has(highMean, 0), longest, has(highMean, 0)},
		{has(highMean, highFar), 1, has(7*longest+1, highFar-1)},
		{has(highMean, highFar), longest, has(highMean, 3*longest)},
		{has(highMean-1, highFar-1), 1, has(7*longest+1, highFar-2)},
		{has(highMean-1, highFar-1), longest, has(highMean, 3*longest+1)},
	} {
		if r, err := rtt.Sample(c.r, c.t); r != c.want || err != api.OK {
			t.Errorf("Sample(%v, %d): %v, %v, not %v", c.r, c.t, r, err, c.want)
		}
	}
}

// P6.1, P6.2: the chapter's example.
func TestExample(t *testing.T) {
	r := api.Rtt{}
	for _, n := range []int{100, 100, 200} {
		r = taken(t, r, n)
	}
	if mean, far := rtt.Mean(r), rtt.Far(r); mean != 112 || far != 53 {
		t.Errorf("Mean %d, Far %d, of %v", mean, far, r)
	}
}

// taken is what is known behind a time that may be.
func taken(t *testing.T, r api.Rtt, n int) api.Rtt {
	t.Helper()
	next, err := rtt.Sample(r, n)
	if err != api.OK {
		t.Fatalf("Sample(%v, %d): %v", r, n, err)
	}
	return next
}

// kept is n, with a given part of itself taken away, and one number more: all of it exactly.
func kept(n, part, more int) int {
	whole := exact.NewInt(int64(n))
	away := new(exact.Int).Quo(whole, exact.NewInt(int64(part)))
	whole.Sub(whole, away)
	return int(whole.Add(whole, exact.NewInt(int64(more))).Int64())
}

// P6.2: whatever may be, with all times that tell, is as the promise counts it.
func TestSampleAsThePromise(t *testing.T) {
	for _, r := range whatMay() {
		for _, n := range times() {
			want := has(8*n, 2*n)
			if r.Has {
				strays := max(n, rtt.Mean(r)) - min(n, rtt.Mean(r))
				want = has(kept(r.Mean, 8, n), kept(r.Far, 4, strays))
			}
			if got := taken(t, r, n); got != want {
				t.Errorf("Sample(%v, %d): %v, not %v", r, n, got, want)
			}
		}
	}
}

// between asks of the mean behind one time more: it lies between the mean that was there and that time, or a millionth beside.
func between(t *testing.T, r api.Rtt, n int, next api.Rtt) {
	t.Helper()
	if !r.Has {
		if rtt.Mean(next) != n {
			t.Fatalf("the first time %d: the mean is %d", n, rtt.Mean(next))
		}
		return
	}
	was, is := rtt.Mean(r), rtt.Mean(next)
	if is < min(was, n)-1 || is > max(was, n)+1 {
		t.Fatalf("Sample(%v, %d): the mean was %d, and is %d", r, n, was, is)
	}
}

// P6.3: what may be stays so, and the mean lies between, wherever it starts.
func TestOneTimeMore(t *testing.T) {
	for _, r := range whatMay() {
		for _, n := range times() {
			next := taken(t, r, n)
			if !next.Has || !rtt.Check(next) {
				t.Errorf("Sample(%v, %d): %v may not be", r, n, next)
			}
			between(t, r, n, next)
		}
	}
}

// rows are rules by which long rows of times go: up and down between both ends, step by step, and as if by chance.
func rows() map[string]func(i int) int {
	seed := uint64(7)
	chance := func(bound int) int {
		seed = seed*6364136223846793005 + 1442695040888963407
		return 1 + int(seed>>33)%bound
	}
	return map[string]func(i int) int{
		"the ends in turn":       func(i int) int { return []int{1, longest}[i%2] },
		"long at one end":        func(i int) int { return []int{longest, 1}[i/500%2] },
		"step by step":           func(i int) int { return 1 + i },
		"doubled":                func(i int) int { return 1 << (i % 31) },
		"halved":                 func(i int) int { return longest >> (i % 31) },
		"by chance":              func(i int) int { return chance(longest) },
		"by chance, small":       func(i int) int { return chance(9) },
		"by chance, about 100ms": func(i int) int { return 95000 + chance(10000) },
	}
}

// P6.3: over long rows what may be stays so, and the mean lies between.
func TestLongRows(t *testing.T) {
	for name, row := range rows() {
		r := api.Rtt{}
		for i := range 20000 {
			n := row(i)
			next := taken(t, r, n)
			between(t, r, n, next)
			if !next.Has || !rtt.Check(next) {
				t.Fatalf("%s, time %d, %d: from %v to %v", name, i, n, r, next)
			}
			r = next
		}
	}
}

// P6.3: times that are refused within a row leave all as it was.
func TestRowWithNoTimes(t *testing.T) {
	with, without := api.Rtt{}, api.Rtt{}
	for i := range 2000 {
		n := i*7919%5000 - 1000
		with, _ = rtt.Sample(with, n)
		if n >= 1 {
			without = taken(t, without, n)
		}
		if with != without {
			t.Fatalf("behind %d: %v, and without those that are refused %v", n, with, without)
		}
	}
}

// P6.3: like times bring the mean to themselves, and how far they stray to nothing, from wherever it starts; there both stay.
func TestLikeTimes(t *testing.T) {
	for _, start := range whatMay() {
		for _, n := range times() {
			r := start
			for range 500 {
				r = taken(t, r, n)
			}
			if rtt.Mean(r) != n || rtt.Far(r) != 0 {
				t.Errorf("from %v, 500 times %d: %v", start, n, r)
			}
			if next := taken(t, r, n); next != r {
				t.Errorf("from %v, 500 times %d: %v, and then %v", start, n, r, next)
			}
		}
	}
}
