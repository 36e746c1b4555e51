package bucket_test

import (
	"math"
	exact "math/big"
	"slices"
	"sync"
	"testing"

	"sawtooth/api"
	"sawtooth/bucket"
)

const (
	most     = math.MaxInt64
	fewest   = math.MinInt64
	second   = 1000000
	maxTime  = 1 << 40
	fullest  = 1 << 60
	greatest = 1 << 40
	full     = greatest * second // what the greatest number of bytes has: below fullest
	heldFrom = 9223372036855     // so many bytes, times a Second, are above most; one fewer is not
)

func whole(n int) *exact.Int { return exact.NewInt(int64(n)) }

func product(l ...int) *exact.Int {
	p := whole(1)
	for _, n := range l {
		p.Mul(p, whole(n))
	}
	return p
}

func sum(a, b *exact.Int) *exact.Int { return new(exact.Int).Add(a, b) }

func less(a, b *exact.Int) *exact.Int { return new(exact.Int).Sub(a, b) }

// heldAt is chapter 1's word.
func heldAt(n *exact.Int) *exact.Int {
	if n.Cmp(whole(most)) > 0 {
		return whole(most)
	}
	if n.Cmp(whole(fewest)) < 0 {
		return whole(fewest)
	}
	return n
}

// fromAbove is of a divisor above 0.
func fromAbove(n, by *exact.Int) *exact.Int {
	q, left := new(exact.Int).DivMod(n, by, new(exact.Int))
	if left.Sign() != 0 {
		q.Add(q, whole(1))
	}
	return q
}

func of(at, have int) api.Bucket { return api.Bucket{At: at, Have: have} }

// answer is all that Fill and Take tell.
type answer struct {
	b   api.Bucket
	err api.Errno
}

func answerOf(b api.Bucket, err api.Errno) answer { return answer{b, err} }

// mayBe is as the chapter's words say it.
func mayBe(b api.Bucket) bool {
	return b.At >= 0 && b.At <= maxTime && b.Have >= 0 && b.Have <= fullest
}

// taken is how the chapter's words take rates, and what it may have at most.
func taken(n int) int {
	if n < 0 {
		return 0
	}
	if n > greatest {
		return greatest
	}
	return n
}

// trueFill is P18.2 by its words, one behind the other, and clock.Step's errors by those of chapter 5.
func trueFill(b api.Bucket, at, rate, high int) answer {
	if !mayBe(b) {
		return answer{b, api.ErrField}
	}
	if at < 0 || at > maxTime {
		return answer{b, api.ErrTime}
	}
	if at < b.At {
		return answer{b, api.ErrBack}
	}
	all := product(taken(high), second)
	if whole(b.Have).Cmp(all) > 0 {
		return answer{of(at, b.Have), api.OK}
	}
	have := sum(whole(b.Have), heldAt(product(taken(rate), at-b.At)))
	if have.Cmp(all) > 0 {
		have = all
	}
	return answer{of(at, int(have.Int64())), api.OK}
}

// trueTake is P18.3's Take by its words.
func trueTake(b api.Bucket, n int) answer {
	if !mayBe(b) {
		return answer{b, api.ErrField}
	}
	if n < 1 {
		return answer{b, api.ErrField}
	}
	have := less(whole(b.Have), product(n, second))
	if have.Sign() < 0 {
		return answer{b, api.ErrWindow}
	}
	return answer{of(b.At, int(have.Int64())), api.OK}
}

// trueWait is P18.3's Wait by its words.
func trueWait(b api.Bucket, n, rate int) *exact.Int {
	if !mayBe(b) {
		return whole(0)
	}
	if n < 0 {
		n = 0
	}
	if whole(b.Have).Cmp(product(n, second)) >= 0 {
		return whole(0)
	}
	if taken(rate) == 0 {
		return whole(maxTime)
	}
	t := fromAbove(less(heldAt(product(n, second)), whole(b.Have)), whole(taken(rate)))
	if t.Cmp(whole(maxTime)) > 0 {
		return whole(maxTime)
	}
	return t
}

// trueBytes is P18.1's Bytes by its words.
func trueBytes(b api.Bucket) int {
	if !mayBe(b) {
		return 0
	}
	return b.Have / second
}

func holdFill(t *testing.T, b api.Bucket, at, rate, high int) {
	t.Helper()
	if got, want := answerOf(bucket.Fill(b, at, rate, high)), trueFill(b, at, rate, high); got != want {
		t.Fatalf("Fill(%+v, %d, %d, %d): %+v, not %+v", b, at, rate, high, got, want)
	}
}

func holdTake(t *testing.T, b api.Bucket, n int) {
	t.Helper()
	if got, want := answerOf(bucket.Take(b, n)), trueTake(b, n); got != want {
		t.Fatalf("Take(%+v, %d): %+v, not %+v", b, n, got, want)
	}
}

func holdWait(t *testing.T, b api.Bucket, n, rate int) {
	t.Helper()
	if got, want := bucket.Wait(b, n, rate), trueWait(b, n, rate); whole(got).Cmp(want) != 0 {
		t.Fatalf("Wait(%+v, %d, %d): %d, not %v", b, n, rate, got, want)
	}
}

// near are numbers, and those around each, on both sides, where these do not go round.
func near(l ...int) []int {
	var all []int
	for _, n := range l {
		all = append(all, n)
		if n > fewest {
			all = append(all, n-1)
		}
		if n < most {
			all = append(all, n+1)
		}
	}
	slices.Sort(all)
	return slices.Compact(all)
}

// stirred is a row that looks like chance, and is the same each time.
func stirred(seed uint64) func(below int) int {
	return func(below int) int {
		seed = seed*6364136223846793005 + 1442695040888963407
		return int((seed >> 20) % uint64(below))
	}
}

// sized are stirred numbers of all sizes up to below 2^bits.
func sized(next func(int) int, bits int) int { return next(1 << next(bits+1)) }

func ats() []int { return near(fewest, -maxTime, 0, 1000, maxTime/2, maxTime, 2*maxTime, most) }

func haves() []int {
	return near(fewest, -fullest, -second, 0, second, 5*second, 1<<40, full, fullest, 1<<62, most)
}

// buckets are all times and all that may be had beside each other, of which many may not be.
func buckets() []api.Bucket {
	var l []api.Bucket
	for _, at := range ats() {
		for _, have := range haves() {
			l = append(l, of(at, have))
		}
	}
	return l
}

// good are those that may be.
func good() []api.Bucket {
	return slices.DeleteFunc(buckets(), func(b api.Bucket) bool { return !mayBe(b) })
}

// wrong are buckets that may not be, by each field, and by both.
func wrong() []api.Bucket {
	return []api.Bucket{
		of(-1, 0), of(-1, 5*second), of(maxTime+1, 0), of(maxTime+1, 5*second), of(2*maxTime, second),
		of(0, -1), of(5, -1), of(0, -second), of(0, fullest+1), of(5, fullest+1), of(0, 2*fullest),
		of(-1, -1), of(maxTime+1, fullest+1), of(-1, fullest+1), of(maxTime+1, -1),
		of(fewest, 0), of(fewest, second), of(most, 0), of(most, second), of(0, fewest), of(7, fewest), of(0, most), of(7, most),
		of(fewest, fewest), of(fewest, most), of(most, fewest), of(most, most),
	}
}

// numbers are what is handed in as a rate, or as a number of bytes.
func numbers() []int {
	return near(fewest, -greatest, 0, 2, 5, 1000, second, 1<<30, 1<<39, greatest, heldFrom, 1<<44, 1<<62, most)
}

// P18.1: both fields below 0, at 0, just below, at and just above their ends, and at both edges of 64 bits.
func TestCheck(t *testing.T) {
	for _, c := range []struct {
		b    api.Bucket
		want bool
	}{
		{api.Bucket{}, true},
		{of(0, 1), true},
		{of(1, 0), true},
		{of(-1, 0), false},
		{of(-1, 1), false},
		{of(0, -1), false},
		{of(1, -1), false},
		{of(-1, -1), false},
		{of(-2, 2), false},

		{of(maxTime-1, 0), true},
		{of(maxTime, 0), true},
		{of(maxTime+1, 0), false},
		{of(maxTime+1, 1), false},
		{of(2*maxTime, 0), false},

		{of(0, second-1), true},
		{of(0, second), true},
		{of(0, second+1), true},
		{of(0, full-1), true},
		{of(0, full), true},
		{of(0, full+1), true},
		{of(0, fullest-1), true},
		{of(0, fullest), true},
		{of(0, fullest+1), false},
		{of(1, fullest+1), false},
		{of(0, 2*fullest), false},

		{of(maxTime, fullest), true},
		{of(maxTime, fullest+1), false},
		{of(maxTime+1, fullest), false},
		{of(maxTime+1, fullest+1), false},
		{of(-1, fullest), false},
		{of(maxTime, -1), false},

		{of(most, 0), false},
		{of(fewest, 0), false},
		{of(0, most), false},
		{of(0, fewest), false},
		{of(most, most), false},
		{of(most, fewest), false},
		{of(fewest, most), false},
		{of(fewest, fewest), false},
	} {
		if is := bucket.Check(c.b); is != c.want {
			t.Errorf("Check(%+v): %v", c.b, is)
		}
	}
}

// P18.1: all fields beside each other.
func TestCheckAtTheEdges(t *testing.T) {
	for _, b := range buckets() {
		if is := bucket.Check(b); is != mayBe(b) {
			t.Errorf("Check(%+v): %v", b, is)
		}
	}
	for _, b := range wrong() {
		if bucket.Check(b) {
			t.Errorf("Check(%+v)", b)
		}
	}
}

// P18.1: whole bytes, from below; of what may not be 0.
func TestBytes(t *testing.T) {
	for _, c := range []struct {
		b    api.Bucket
		want int
	}{
		{api.Bucket{}, 0},
		{of(0, 1), 0},
		{of(0, second-1), 0},
		{of(0, second), 1},
		{of(0, second+1), 1},
		{of(0, 2*second-1), 1},
		{of(0, 2*second), 2},
		{of(maxTime, 3*second), 3},
		{of(5, 5*second+999999), 5},
		{of(0, full-1), greatest - 1},
		{of(0, full), greatest},
		{of(0, fullest-1), 1152921504606},
		{of(0, fullest), 1152921504606},
		{of(maxTime, fullest), 1152921504606},

		{of(0, fullest+1), 0},
		{of(0, -1), 0},
		{of(0, -second), 0},
		{of(0, -5*second), 0},
		{of(-1, 5*second), 0},
		{of(maxTime+1, 5*second), 0},
		{of(0, most), 0},
		{of(0, fewest), 0},
		{of(most, 5*second), 0},
		{of(fewest, 5*second), 0},
		{of(most, most), 0},
		{of(fewest, fewest), 0},
	} {
		if n := bucket.Bytes(c.b); n != c.want {
			t.Errorf("Bytes(%+v): %d, not %d", c.b, n, c.want)
		}
	}
}

// P18.1: all fields beside each other.
func TestBytesAsTheWords(t *testing.T) {
	for _, b := range slices.Concat(buckets(), wrong()) {
		if n := bucket.Bytes(b); n != trueBytes(b) {
			t.Errorf("Bytes(%+v): %d", b, n)
		}
	}
}

// The chapter's example.
func TestExample(t *testing.T) {
	b, err := bucket.Fill(api.Bucket{}, 3000, 1000, 5)
	if b != of(3000, 3*second) || err != api.OK || bucket.Bytes(b) != 3 {
		t.Errorf("%+v, %d, %d", b, err, bucket.Bytes(b))
	}
	if b, err := bucket.Fill(b, 6000, 1000, 5); b != of(6000, 5*second) || err != api.OK {
		t.Errorf("%+v, %d", b, err)
	}
}

// P18.2: it has more by the rate times how much later it is.
func TestFill(t *testing.T) {
	for _, c := range []struct {
		b              api.Bucket
		at, rate, high int
		want           api.Bucket
	}{
		{of(0, 0), 0, 1000, 5, of(0, 0)},
		{of(0, 0), 1, 1000, 5, of(1, 1000)},
		{of(0, 0), 2999, 1000, 5, of(2999, 2999000)},
		{of(100, 7), 100, 1000, 5, of(100, 7)},
		{of(100, 7), 101, 1000, 5, of(101, 1007)},
		{of(100, 7), 101, 1, 5, of(101, 8)},
		{of(100, 7), 200, 3, 5, of(200, 307)},
		{of(100, 7), maxTime, 1, greatest, of(maxTime, 7+maxTime-100)},
		{of(maxTime-1, 7), maxTime, 1000, 5, of(maxTime, 1007)},
		{of(maxTime, 7), maxTime, 1000, 5, of(maxTime, 7)},

		// Just below, at and just above the most.
		{of(0, 0), 4999, 1000, 5, of(4999, 4999000)},
		{of(0, 0), 5000, 1000, 5, of(5000, 5*second)},
		{of(0, 0), 5001, 1000, 5, of(5001, 5*second)},
		{of(0, 5*second-1), 1, 1, 5, of(1, 5*second)},
		{of(0, 5*second-1), 1, 2, 5, of(1, 5*second)},
		{of(0, 5*second-2), 1, 1, 5, of(1, 5*second-1)},
		{of(0, 2*second), 3, second, 5, of(3, 5*second)},
		{of(0, 2*second), maxTime, 1, 5, of(maxTime, 5*second)},

		// Just as much as the most, and more, stays.
		{of(0, 5*second), 1, 1000, 5, of(1, 5*second)},
		{of(0, 5*second+1), 1, 1000, 5, of(1, 5*second+1)},
		{of(0, 6*second), 1, 1000, 5, of(1, 6*second)},
		{of(0, fullest), maxTime, greatest, 5, of(maxTime, fullest)},
		{of(0, fullest), maxTime, greatest, greatest, of(maxTime, fullest)},
		{of(0, full+1), maxTime, greatest, greatest, of(maxTime, full+1)},
		{of(0, full), maxTime, greatest, greatest, of(maxTime, full)},
		{of(0, full-1), maxTime, 1, greatest, of(maxTime, full)},
		{of(0, full-1), 1, 1, greatest, of(1, full)},
		{of(0, full-2), 1, 1, greatest, of(1, full-1)},
	} {
		if got := answerOf(bucket.Fill(c.b, c.at, c.rate, c.high)); got != (answer{c.want, api.OK}) {
			t.Errorf("Fill(%+v, %d, %d, %d): %+v, not %+v", c.b, c.at, c.rate, c.high, got, c.want)
		}
	}
}

// P18.2: rates below 0 count as 0, and those above 2^40 as that.
func TestFillOfRatesBeyond(t *testing.T) {
	b := of(10, 70)
	for _, rate := range []int{fewest, fewest + 1, -greatest, -1000, -2, -1, 0} {
		for _, at := range []int{10, 11, 1000, maxTime} {
			if got := answerOf(bucket.Fill(b, at, rate, greatest)); got != (answer{of(at, 70), api.OK}) {
				t.Errorf("%d, %d: %+v", rate, at, got)
			}
		}
	}
	for _, c := range []struct{ rate, have int }{
		{1, 73},
		{2, 76},
		{greatest - 1, 70 + 3*(greatest-1)},
		{greatest, 70 + 3*greatest},
		{greatest + 1, 70 + 3*greatest},
		{2 * greatest, 70 + 3*greatest},
		{1 << 62, 70 + 3*greatest},
		{most - 1, 70 + 3*greatest},
		{most, 70 + 3*greatest},
	} {
		if got := answerOf(bucket.Fill(b, 13, c.rate, greatest)); got != (answer{of(13, c.have), api.OK}) {
			t.Errorf("%d: %+v, not %d", c.rate, got, c.have)
		}
	}
}

// P18.2: what it may have at most counts as 0, if it is below that, and as 2^40, if it is above that.
func TestFillOfMostBeyond(t *testing.T) {
	for _, c := range []struct{ high, have int }{
		{fewest, 0},
		{fewest + 1, 0},
		{-greatest, 0},
		{-1, 0},
		{0, 0},
		{1, second},
		{2, 2 * second},
		{greatest - 1, full - second},
		{greatest, full},
		{greatest + 1, full},
		{2 * greatest, full},
		{heldFrom, full},
		{1 << 62, full},
		{most - 1, full},
		{most, full},
	} {
		if got := answerOf(bucket.Fill(of(0, 0), 1<<30, 1<<38, c.high)); got != (answer{of(1<<30, c.have), api.OK}) {
			t.Errorf("%d: %+v, not %d", c.high, got, c.have)
		}
		have := max(c.have, 3)
		if got := answerOf(bucket.Fill(of(0, 3), 1<<30, 1<<38, c.high)); got != (answer{of(1<<30, have), api.OK}) {
			t.Errorf("%d, with 3: %+v, not %d", c.high, got, have)
		}
	}
}

// P18.2: products that are held, some of which would be small, or below 0, had they gone round, and those that are just not.
func TestFillOfHeldProducts(t *testing.T) {
	for _, c := range []struct{ by, rate, have int }{
		{1 << 23, greatest, full},
		{1<<23 - 1, greatest, full},
		{1 << 24, greatest, full},
		{1<<24 + 1, greatest, full},
		{3 << 23, greatest, full},
		{1 << 40, 1 << 23, full},
		{1 << 40, 1<<23 - 1, full},
		{1 << 40, 1 << 24, full},
		{1 << 40, 1<<24 + 1, full},
		{1 << 40, greatest, full},
		{1 << 40, greatest + 1, full},
		{1<<40 - 1, greatest - 1, full},
		{1 << 32, 1 << 32, full},
		{1 << 32, 1 << 31, full},
		{second, greatest, full},
		{second - 1, greatest, full - greatest},
		{1 << 20, greatest - 1, full},
		{1 << 40, second, full},
		{1 << 40, second - 1, full - greatest},
		{1 << 40, second + 1, full},
	} {
		if got := answerOf(bucket.Fill(of(0, 0), c.by, c.rate, greatest)); got != (answer{of(c.by, c.have), api.OK}) {
			t.Errorf("%d, %d: %+v, not %d", c.by, c.rate, got, c.have)
		}
		for _, have := range []int{1, second, full - 1, full, full + 1, fullest - 1, fullest} {
			holdFill(t, of(0, have), c.by, c.rate, greatest)
			holdFill(t, of(0, have), c.by, c.rate, 7)
		}
	}
}

// P18.2: each error, with the bucket as it was.
func TestFillErrors(t *testing.T) {
	for _, c := range []struct {
		b    api.Bucket
		at   int
		want api.Errno
	}{
		{of(100, 7), 99, api.ErrBack},
		{of(100, 7), 1, api.ErrBack},
		{of(100, 7), 0, api.ErrBack},
		{of(100, 7), -1, api.ErrTime},
		{of(100, 7), fewest, api.ErrTime},
		{of(100, 7), fewest + 1, api.ErrTime},
		{of(100, 7), maxTime + 1, api.ErrTime},
		{of(100, 7), 2 * maxTime, api.ErrTime},
		{of(100, 7), most, api.ErrTime},
		{of(100, 7), most - 1, api.ErrTime},
		{of(0, 7), -1, api.ErrTime},
		{of(0, 7), maxTime + 1, api.ErrTime},
		{of(maxTime, fullest), maxTime - 1, api.ErrBack},
		{of(maxTime, fullest), maxTime + 1, api.ErrTime},
		{of(maxTime, fullest), 0, api.ErrBack},
		{of(1, 0), 0, api.ErrBack},
	} {
		for _, rate := range []int{fewest, -1, 0, 1, 1000, greatest, most} {
			for _, high := range []int{fewest, 0, 5, greatest, most} {
				if got := answerOf(bucket.Fill(c.b, c.at, rate, high)); got != (answer{c.b, c.want}) {
					t.Errorf("Fill(%+v, %d, %d, %d): %+v, not %d", c.b, c.at, rate, high, got, c.want)
				}
			}
		}
	}
}

// P18.2: what may not be is ErrField, whatever the time is.
func TestFillOfWhatMayNotBe(t *testing.T) {
	for _, b := range wrong() {
		for _, at := range slices.Concat(ats(), near(b.At)) {
			for _, rate := range []int{fewest, 0, 1000, greatest, most} {
				for _, high := range []int{fewest, 0, 5, greatest, most} {
					if got := answerOf(bucket.Fill(b, at, rate, high)); got != (answer{b, api.ErrField}) {
						t.Errorf("Fill(%+v, %d, %d, %d): %+v", b, at, rate, high, got)
					}
				}
			}
		}
	}
}

// P18.2: all buckets, times, rates and numbers of bytes beside each other, as the chapter's words say in true numbers.
func TestFillAsTheWords(t *testing.T) {
	for _, b := range buckets() {
		for _, at := range slices.Concat(near(fewest, 0, b.At, maxTime, most), []int{1500, maxTime / 2}) {
			for _, rate := range []int{fewest, -1, 0, 1, 1000, second, 1<<23 - 1, 1 << 23, greatest - 1, greatest, greatest + 1, most} {
				for _, high := range []int{fewest, -1, 0, 1, 5, 6, second, greatest - 1, greatest, greatest + 1, most} {
					holdFill(t, b, at, rate, high)
				}
			}
		}
	}
}

// P18.2: stirred ones of all sizes, and what just comes up to the most.
func TestFillOfAllSizes(t *testing.T) {
	next := stirred(18)
	for range 40000 {
		b := of(sized(next, 40), sized(next, 60))
		at := min(b.At+sized(next, 40), maxTime)
		rate, high := sized(next, 41), sized(next, 41)
		holdFill(t, b, at, rate, high)
		lacking := high*second - b.Have
		if rate == 0 || high > greatest || lacking < 0 {
			continue
		}
		for _, at := range near(b.At + lacking/rate) {
			holdFill(t, b, at, rate, high)
		}
	}
}

// P18.3: just as many as there are go, and one more does not.
func TestTake(t *testing.T) {
	for _, c := range []struct {
		b    api.Bucket
		n    int
		want answer
	}{
		{of(5, 5*second), 1, answer{of(5, 4*second), api.OK}},
		{of(5, 5*second), 4, answer{of(5, second), api.OK}},
		{of(5, 5*second), 5, answer{of(5, 0), api.OK}},
		{of(5, 5*second), 6, answer{of(5, 5*second), api.ErrWindow}},
		{of(5, 5*second), 7, answer{of(5, 5*second), api.ErrWindow}},
		{of(5, 5*second-1), 5, answer{of(5, 5*second-1), api.ErrWindow}},
		{of(5, 5*second-1), 4, answer{of(5, second-1), api.OK}},
		{of(5, 5*second+1), 5, answer{of(5, 1), api.OK}},
		{of(5, 6*second-1), 5, answer{of(5, second-1), api.OK}},
		{of(5, 6*second-1), 6, answer{of(5, 6*second-1), api.ErrWindow}},
		{of(0, 0), 1, answer{of(0, 0), api.ErrWindow}},
		{of(0, second-1), 1, answer{of(0, second-1), api.ErrWindow}},
		{of(0, second), 1, answer{of(0, 0), api.OK}},
		{of(maxTime, second), 1, answer{of(maxTime, 0), api.OK}},
		{of(0, full), greatest, answer{of(0, 0), api.OK}},
		{of(0, full), greatest + 1, answer{of(0, full), api.ErrWindow}},
		{of(0, fullest), 1152921504606, answer{of(0, 846976), api.OK}},
		{of(0, fullest), 1152921504607, answer{of(0, fullest), api.ErrWindow}},
		{of(0, fullest), 1, answer{of(0, fullest-second), api.OK}},
	} {
		if got := answerOf(bucket.Take(c.b, c.n)); got != c.want {
			t.Errorf("Take(%+v, %d): %+v, not %+v", c.b, c.n, got, c.want)
		}
	}
}

// P18.3: fewer than 1 is ErrField, whatever there is, and what is above all there may be ErrWindow, though it may go round times a Second.
func TestTakeOfEdges(t *testing.T) {
	for _, b := range good() {
		for _, n := range []int{fewest, fewest + 1, -heldFrom, -second, -2, -1, 0} {
			if got := answerOf(bucket.Take(b, n)); got != (answer{b, api.ErrField}) {
				t.Errorf("Take(%+v, %d): %+v", b, n, got)
			}
		}
		for _, n := range []int{1 << 58, 1 << 59, 1 << 60, 1 << 61, 1 << 62, 1<<58 + 1, heldFrom - 1, heldFrom, 2 * heldFrom, 18446744073709, 18446744073710, most - 1, most} {
			if got := answerOf(bucket.Take(b, n)); got != (answer{b, api.ErrWindow}) {
				t.Errorf("Take(%+v, %d): %+v", b, n, got)
			}
		}
	}
}

// P18.3: what may not be is ErrField.
func TestTakeOfWhatMayNotBe(t *testing.T) {
	for _, b := range wrong() {
		for _, n := range numbers() {
			if got := answerOf(bucket.Take(b, n)); got != (answer{b, api.ErrField}) {
				t.Errorf("Take(%+v, %d): %+v", b, n, got)
			}
		}
	}
}

// P18.3: all buckets and numbers of bytes beside each other, as the chapter's words say in true numbers.
func TestTakeAsTheWords(t *testing.T) {
	for _, b := range buckets() {
		for _, n := range slices.Concat(numbers(), near(b.Have/second)) {
			holdTake(t, b, n)
		}
	}
	next := stirred(3)
	for range 40000 {
		b := of(sized(next, 40), sized(next, 60))
		holdTake(t, b, sized(next, 42))
		for _, n := range near(b.Have / second) {
			holdTake(t, b, n)
		}
	}
}

// P18.3: what is there is not waited for, at any rate; for one millionth of a byte it is.
func TestWaitForWhatIsThere(t *testing.T) {
	for _, rate := range numbers() {
		for _, c := range []struct {
			b api.Bucket
			n int
		}{
			{of(0, 0), 0},
			{of(0, 0), -1},
			{of(0, 0), -second},
			{of(0, 0), fewest},
			{of(0, 0), fewest + 1},
			{of(0, fullest), fewest},
			{of(0, fullest), fewest + 1},
			{of(0, fullest), -heldFrom},
			{of(maxTime, fullest), -1},
			{of(0, 1), 0},
			{of(0, second), 1},
			{of(0, second+1), 1},
			{of(5, 5*second), 5},
			{of(5, 5*second), 4},
			{of(5, 5*second), 0},
			{of(maxTime, full), greatest},
			{of(0, fullest), 1152921504606},
		} {
			if n := bucket.Wait(c.b, c.n, rate); n != 0 {
				t.Errorf("Wait(%+v, %d, %d): %d", c.b, c.n, rate, n)
			}
		}
		want := 1
		if rate < 1 {
			want = maxTime
		}
		for _, n := range []int{1, 2, 5, second, greatest, 1152921504606} {
			if got := bucket.Wait(of(3, n*second-1), n, rate); got != want {
				t.Errorf("one millionth less than %d, at %d: %d", n, rate, got)
			}
		}
	}
}

// P18.3: what divides evenly, and what leaves a little, which counts as one more; MaxTime at most.
func TestWait(t *testing.T) {
	for _, c := range []struct {
		b             api.Bucket
		n, rate, want int
	}{
		{of(0, 0), 1, 1, second},
		{of(0, 0), 1, 2, second / 2},
		{of(0, 0), 1, 3, 333334},
		{of(0, 0), 2, 3, 666667},
		{of(0, 0), 3, 3, second},
		{of(0, 0), 5, 1000, 5000},
		{of(0, 0), 1, second, 1},
		{of(0, 0), 1, second - 1, 2},
		{of(0, 0), 1, second + 1, 1},
		{of(0, 0), 1, greatest, 1},
		{of(0, 3*second), 5, 1000, 2000},
		{of(9, 3*second), 5, 1000, 2000},
		{of(maxTime, 3*second), 5, 1000, 2000},
		{of(0, 3*second+1), 5, 1000, 2000},
		{of(0, 3*second+999), 5, 1000, 2000},
		{of(0, 3*second+1000), 5, 1000, 1999},
		{of(0, 3*second-1), 5, 1000, 2001},
		{of(0, 2), 1, 1, second - 2},
		{of(0, 1), 1, second, 1},
		{of(0, 1), 2, second, 2},

		// Without a rate.
		{of(0, 0), 1, 0, maxTime},
		{of(0, 0), 1, -1, maxTime},
		{of(0, 0), 1, fewest, maxTime},
		{of(0, second-1), 1, 0, maxTime},
		{of(0, fullest), most, 0, maxTime},
		{of(0, 0), most, fewest, maxTime},

		// Just below, at and just above MaxTime.
		{of(0, 0), 1099511, 1, 1099511000000},
		{of(0, 372224), 1099512, 1, maxTime},
		{of(0, 372223), 1099512, 1, maxTime},
		{of(0, 372225), 1099512, 1, maxTime - 1},
		{of(0, 0), 1099512, 1, maxTime},
		{of(0, 0), greatest, second, maxTime},
		{of(0, 0), greatest - 1, second, maxTime - 1},
		{of(0, 0), greatest + 1, second, maxTime},
		{of(0, 1), greatest, second, maxTime},
		{of(0, second-1), greatest, second, maxTime},
		{of(0, second), greatest, second, maxTime - 1},
		{of(0, 0), greatest, second - 1, maxTime},
		{of(0, 0), greatest, second + 1, 1099510528266},
		{of(0, 0), heldFrom, 1, maxTime},
		{of(0, 0), most, 1, maxTime},

		// n times a Second, held, and just not; rates above 2^40 count as that.
		{of(0, 0), heldFrom - 1, greatest, 8388608},
		{of(0, 0), heldFrom - 1, greatest - 1, 8388609},
		{of(0, 0), heldFrom - 2, greatest, 8388608},
		{of(0, 0), 9223370937344, greatest, 8388608},
		{of(0, 0), 9223370937343, greatest, 8388607},
		{of(0, 0), heldFrom, greatest, 8388608},
		{of(0, 0), 2 * heldFrom, greatest, 8388608},
		{of(0, 0), most, greatest, 8388608},
		{of(0, 0), most, greatest + 1, 8388608},
		{of(0, 0), most, most, 8388608},
		{of(0, 0), 1 << 58, most, 8388608},
		{of(0, fullest), most, greatest, 7340032},
		{of(0, fullest), most, most, 7340032},
		{of(0, fullest), most, 1 << 23, 7 << 37},
		{of(0, fullest), most, 7340033, 1099511477980},
		{of(0, fullest), most, 7340032, maxTime},
		{of(0, fullest), most, 7340031, maxTime},
		{of(0, 0), greatest, greatest, second},
		{of(0, 0), greatest, greatest + 1, second},
		{of(0, 0), greatest, 2 * greatest, second},
		{of(0, 0), greatest, most, second},
		{of(0, 0), greatest, greatest - 1, second + 1},
	} {
		if n := bucket.Wait(c.b, c.n, c.rate); n != c.want {
			t.Errorf("Wait(%+v, %d, %d): %d, not %d, and by the words %v", c.b, c.n, c.rate, n, c.want, trueWait(c.b, c.n, c.rate))
		}
	}
}

// P18.3: of what may not be it is 0.
func TestWaitOfWhatMayNotBe(t *testing.T) {
	for _, b := range wrong() {
		for _, n := range numbers() {
			for _, rate := range []int{fewest, -1, 0, 1, 1000, greatest, most} {
				if got := bucket.Wait(b, n, rate); got != 0 {
					t.Errorf("Wait(%+v, %d, %d): %d", b, n, rate, got)
				}
			}
		}
	}
}

// P18.3: all buckets, numbers of bytes and rates beside each other, as the chapter's words say in true numbers.
func TestWaitAsTheWords(t *testing.T) {
	for _, b := range buckets() {
		for _, n := range slices.Concat(numbers(), near(b.Have/second)) {
			for _, rate := range numbers() {
				holdWait(t, b, n, rate)
			}
		}
	}
}

// P18.3: stirred ones of all sizes, and what takes just about MaxTime.
func TestWaitOfAllSizes(t *testing.T) {
	next := stirred(7)
	for range 40000 {
		b := of(sized(next, 40), sized(next, 60))
		holdWait(t, b, sized(next, 62), sized(next, 42))
		holdWait(t, b, b.Have/second+1+sized(next, 20), sized(next, 42))
		rate := 1 + sized(next, 22)
		have := sized(next, 60)
		for _, n := range near((have + rate*maxTime) / second) {
			holdWait(t, of(0, have), n, rate)
		}
	}
}

// row is many steps of time, each with its own rate, and takes between them: it counts what goes against what it had, and the rates times the times.
type row struct {
	t            *testing.T
	b            api.Bucket
	lets         *exact.Int
	went         *exact.Int
	fills, takes int
	refused      int
}

func beginRow(t *testing.T, b api.Bucket) *row {
	return &row{t: t, b: b, lets: whole(b.Have), went: whole(0)}
}

func (r *row) fill(at, rate, high int) {
	b, err := bucket.Fill(r.b, at, rate, high)
	if err != api.OK {
		r.refused++
	} else {
		r.fills++
		r.lets = sum(r.lets, product(taken(rate), b.At-r.b.At))
	}
	r.hold(b, err)
}

func (r *row) take(n int) {
	b, err := bucket.Take(r.b, n)
	if err != api.OK {
		r.refused++
	} else {
		r.takes++
		r.went = sum(r.went, product(n, second))
	}
	r.hold(b, err)
}

func (r *row) hold(b api.Bucket, err api.Errno) {
	r.t.Helper()
	if err != api.OK && b != r.b {
		r.t.Fatalf("%+v behind %+v, with %d", b, r.b, err)
	}
	if !bucket.Check(b) {
		r.t.Fatalf("%+v behind %+v", b, r.b)
	}
	r.b = b
	if sum(r.went, whole(b.Have)).Cmp(r.lets) > 0 {
		r.t.Fatalf("%v went, and %+v is left, of %v", r.went, b, r.lets)
	}
}

// P18.4: what goes is at most what it had, and the rates times the times.
func TestWhatGoes(t *testing.T) {
	for seed := range uint64(60) {
		next := stirred(seed)
		r := beginRow(t, of(next(1000), sized(next, 60)))
		for range 1500 {
			if next(2) == 0 {
				r.fill(r.b.At+sized(next, 24)-next(2), sized(next, 41)-next(2), sized(next, 41)-next(2))
			} else {
				r.take(next(bucket.Bytes(r.b)+3) - next(2))
			}
		}
		if r.fills < 50 || r.takes < 50 || r.refused < 20 {
			t.Fatalf("%d: %d fills, %d takes, %d refused", seed, r.fills, r.takes, r.refused)
		}
	}
}

// P18.4: so it is at one rate, where all that there is is taken at each step, and nothing is left out but what is less than a byte.
func TestWhatGoesAtOneRate(t *testing.T) {
	for _, rate := range []int{1, 7, 1000, 300000, second + 1, 1 << 30} {
		for _, step := range []int{1, 3, 999, second, 7*second + 1} {
			r := beginRow(t, of(17, 5*second+3))
			for range 500 {
				r.fill(r.b.At+step, rate, greatest)
				if n := bucket.Bytes(r.b); n > 0 {
					r.take(n)
				}
			}
			left := less(r.lets, r.went)
			if r.refused > 0 || left.Cmp(whole(r.b.Have)) != 0 || r.b.Have >= second {
				t.Fatalf("%d, %d: %v went of %v, and %+v is left", rate, step, r.went, r.lets, r.b)
			}
		}
	}
}

// P18.4: time that goes by in parts lets as much go as all of it at once.
func TestTimeInParts(t *testing.T) {
	next := stirred(11)
	for range 2000 {
		b := of(sized(next, 30), sized(next, 50))
		rate, high := sized(next, 36), sized(next, 34)
		parts := b
		for range 1 + next(20) {
			parts, _ = bucket.Fill(parts, parts.At+sized(next, 20), rate, high)
		}
		if once, err := bucket.Fill(b, parts.At, rate, high); once != parts || err != api.OK {
			t.Fatalf("%+v, %d, %d: %+v at once, %+v in parts", b, rate, high, once, parts)
		}
	}
}

// holdTheWait waits for n bytes, where there is time and room, and takes them; one millionth of a second earlier they are not there. It tells whether there were both.
func holdTheWait(t *testing.T, b api.Bucket, n, rate, high int) bool {
	t.Helper()
	wait := bucket.Wait(b, n, rate)
	lets := sum(whole(b.Have), product(taken(rate), wait))
	if b.At+wait > maxTime || taken(high) < n || lets.Cmp(product(n, second)) < 0 {
		return false
	}
	full, err := bucket.Fill(b, b.At+wait, rate, high)
	if err != api.OK {
		t.Fatalf("Fill(%+v, %d, %d, %d): %d", b, b.At+wait, rate, high, err)
	}
	if gone, err := bucket.Take(full, n); err != api.OK || gone != of(full.At, full.Have-n*second) || bucket.Wait(full, n, rate) != 0 {
		t.Fatalf("%+v, %d at %d, up to %d, behind %d: %+v, %d", b, n, rate, high, wait, full, err)
	}
	if wait == 0 {
		return true
	}
	early, err := bucket.Fill(b, b.At+wait-1, rate, high)
	if err != api.OK {
		t.Fatalf("Fill(%+v, %d, %d, %d): %d", b, b.At+wait-1, rate, high, err)
	}
	if kept, err := bucket.Take(early, n); err != api.ErrWindow || kept != early || bucket.Wait(early, n, rate) != 1 {
		t.Fatalf("%+v, %d at %d, up to %d, behind %d: %+v, %d", b, n, rate, high, wait-1, early, err)
	}
	return true
}

// P18.4: after the time to wait it goes, if there is room.
func TestAfterTheWaitItGoes(t *testing.T) {
	held := 0
	for _, b := range good() {
		for _, n := range slices.Concat(numbers(), near(b.Have/second)) {
			for _, rate := range numbers() {
				for _, high := range []int{n, n + 1, greatest, most} {
					if n >= 1 && n < most && holdTheWait(t, b, n, rate, high) {
						held++
					}
				}
			}
		}
	}
	if held < 10000 {
		t.Error(held)
	}
}

// P18.4: so it is of stirred ones of all sizes, with just room enough, and with more.
func TestAfterTheWaitItGoesOfAllSizes(t *testing.T) {
	next := stirred(4)
	held := 0
	for range 40000 {
		b := of(sized(next, 39), sized(next, 59))
		n := 1 + sized(next, 40)
		if next(2) == 0 {
			n = b.Have/second + 1 + sized(next, 30)
		}
		if holdTheWait(t, b, n, 1+sized(next, 40), n+sized(next, 40)*next(2)) {
			held++
		}
	}
	if held < 10000 {
		t.Error(held)
	}
}

// P18.4: and of few bytes at small rates, all of them.
func TestAfterTheWaitItGoesOfFew(t *testing.T) {
	for n := 1; n < 60; n++ {
		for rate := 1; rate < 60; rate++ {
			for _, have := range []int{0, 1, second - 1, second, second + 1, 30*second - 1, 30 * second} {
				if !holdTheWait(t, of(5, have), n, rate, n) {
					t.Fatalf("%d, %d, %d", n, rate, have)
				}
			}
		}
	}
}

// P18.4: without room it does not go, however long it is waited.
func TestWithoutRoomItDoesNotGo(t *testing.T) {
	for _, n := range []int{1, 2, 5, 1000, greatest} {
		for _, high := range []int{fewest, -1, 0, n / 2, n - 1} {
			b, err := bucket.Fill(of(0, 0), maxTime, greatest, high)
			if err != api.OK {
				t.Fatal(err)
			}
			if got := answerOf(bucket.Take(b, n)); got != (answer{b, api.ErrWindow}) {
				t.Errorf("%d of %d: %+v", n, high, got)
			}
		}
	}
}

// R4: what is told hangs on what is given alone, beside other calls too.
func TestCallsBesideEachOther(t *testing.T) {
	var hands sync.WaitGroup
	for seed := range uint64(8) {
		hands.Add(1)
		go func() {
			defer hands.Done()
			next := stirred(seed)
			for range 2000 {
				b := of(sized(next, 41), sized(next, 61))
				at, n, rate, high := sized(next, 41), sized(next, 41), sized(next, 41), sized(next, 41)
				if got := answerOf(bucket.Fill(b, at, rate, high)); got != trueFill(b, at, rate, high) {
					t.Errorf("Fill(%+v, %d, %d, %d): %+v", b, at, rate, high, got)
				}
				if got := answerOf(bucket.Take(b, n)); got != trueTake(b, n) {
					t.Errorf("Take(%+v, %d): %+v", b, n, got)
				}
				if got := bucket.Wait(b, n, rate); whole(got).Cmp(trueWait(b, n, rate)) != 0 {
					t.Errorf("Wait(%+v, %d, %d): %d", b, n, rate, got)
				}
			}
		}()
	}
	hands.Wait()
}
