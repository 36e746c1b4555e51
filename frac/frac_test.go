package frac_test

import (
	"math"
	exact "math/big"
	"testing"

	"sawtooth/api"
	"sawtooth/frac"
)

const (
	most  = math.MaxInt64
	least = math.MinInt64
	one   = api.One
)

type call func(a, b, c int) (int, api.Errno)

// answer is a number, and the error beside it.
type answer struct {
	n   int
	err api.Errno
}

func ok(n int) answer { return answer{n, api.OK} }

var (
	over = answer{0, api.ErrOver}
	zero = answer{0, api.ErrZero}
)

func told(n int, err api.Errno) answer { return answer{n, err} }

// telling are numbers of both signs: around 0, around One, around roots of the edges, halves of them, and the edges.
func telling() []int {
	var l []int
	for _, n := range []int{1, 4, 7, 1460, one, 1 << 31, 3037000499, 1 << 47, 1 << 62, most - 1} {
		for _, m := range []int{n - 1, n, n + 1} {
			l = append(l, m, -m)
		}
	}
	return append(l, least)
}

// divisors are numbers that may divide.
func divisors() []int {
	var l []int
	for _, n := range telling() {
		if n > 0 {
			l = append(l, n)
		}
	}
	return l
}

func whole(n int) *exact.Int { return exact.NewInt(int64(n)) }

func product(a, b int) *exact.Int { return new(exact.Int).Mul(whole(a), whole(b)) }

// below is n divided by d, from below; d is above 0, where Euclid's division is just that.
func below(n, d *exact.Int) *exact.Int { return new(exact.Int).Div(n, d) }

// above is n divided by d, from above: what is below it with the other sign.
func above(n, d *exact.Int) *exact.Int {
	m := below(new(exact.Int).Neg(n), d)
	return m.Neg(m)
}

// nearest is a half more, from below: twice n and d, divided by twice d.
func nearest(n, d *exact.Int) *exact.Int {
	m := new(exact.Int).Lsh(n, 1)
	return below(m.Add(m, d), new(exact.Int).Lsh(d, 1))
}

// answered is how n is to be told: 0 and ErrOver, if it is none of 64 bits.
func answered(n *exact.Int) answer {
	if !n.IsInt64() {
		return over
	}
	return ok(int(n.Int64()))
}

// P4.1: all parts of all numbers that tell are as the true ones; of those many are of 64 bits, and many are not.
func TestPartsAsTheTrueNumber(t *testing.T) {
	for _, a := range telling() {
		for _, b := range telling() {
			for _, c := range divisors() {
				n, d := product(a, b), whole(c)
				if got, want := told(frac.Floor(a, b, c)), answered(below(n, d)); got != want {
					t.Fatalf("Floor(%d, %d, %d): %v, not %v", a, b, c, got, want)
				}
				if got, want := told(frac.Ceil(a, b, c)), answered(above(n, d)); got != want {
					t.Fatalf("Ceil(%d, %d, %d): %v, not %v", a, b, c, got, want)
				}
				if got, want := told(frac.Near(a, b, c)), answered(nearest(n, d)); got != want {
					t.Fatalf("Near(%d, %d, %d): %v, not %v", a, b, c, got, want)
				}
			}
		}
	}
}

// parts is a call of all three, and what is wanted of each.
type parts struct {
	a, b, c           int
	floor, ceil, near answer
}

func holdAll(t *testing.T, l []parts) {
	t.Helper()
	for _, p := range l {
		for _, x := range []struct {
			name string
			part call
			want answer
		}{{"Floor", frac.Floor, p.floor}, {"Ceil", frac.Ceil, p.ceil}, {"Near", frac.Near, p.near}} {
			if got := told(x.part(p.a, p.b, p.c)); got != x.want {
				t.Errorf("%s(%d, %d, %d): %v, not %v", x.name, p.a, p.b, p.c, got, x.want)
			}
		}
	}
}

// P4.1: products that are divided evenly, by one more and by one less, of both signs.
func TestPartsWithinTheEdges(t *testing.T) {
	holdAll(t, []parts{
		{0, 0, 1, ok(0), ok(0), ok(0)},
		{0, least, most, ok(0), ok(0), ok(0)},
		{6, 7, 1, ok(42), ok(42), ok(42)},
		{6, 7, 6, ok(7), ok(7), ok(7)},
		{-6, 7, 6, ok(-7), ok(-7), ok(-7)},
		{6, -7, 6, ok(-7), ok(-7), ok(-7)},
		{-6, -7, 6, ok(7), ok(7), ok(7)},
		{43, 1, 6, ok(7), ok(8), ok(7)},
		{41, 1, 6, ok(6), ok(7), ok(7)},
		{-43, 1, 6, ok(-8), ok(-7), ok(-7)},
		{-41, 1, 6, ok(-7), ok(-6), ok(-7)},
		{6, 7, 5, ok(8), ok(9), ok(8)},
		{-6, 7, 5, ok(-9), ok(-8), ok(-8)},
		{1, 1, most, ok(0), ok(1), ok(0)},
		{-1, 1, most, ok(-1), ok(0), ok(0)},
	})
}

// P4.1: of two nearest ones the greater one, on both sides of 0; and none of them just beside a half.
func TestHalves(t *testing.T) {
	const half = 1 << 61
	holdAll(t, []parts{
		{-7, 1, 2, ok(-4), ok(-3), ok(-3)},
		{7, 1, 2, ok(3), ok(4), ok(4)},
		{1, 1, 2, ok(0), ok(1), ok(1)},
		{-1, 1, 2, ok(-1), ok(0), ok(0)},
		{3, -5, 10, ok(-2), ok(-1), ok(-1)},
		{-3, -5, 10, ok(1), ok(2), ok(2)},
		{49, 1, 100, ok(0), ok(1), ok(0)},
		{51, 1, 100, ok(0), ok(1), ok(1)},
		{-49, 1, 100, ok(-1), ok(0), ok(0)},
		{-51, 1, 100, ok(-1), ok(0), ok(-1)},
		{1, 1, 3, ok(0), ok(1), ok(0)},
		{2, 1, 3, ok(0), ok(1), ok(1)},
		{half, 1, 2 * half, ok(0), ok(1), ok(1)},
		{half - 1, 1, 2 * half, ok(0), ok(1), ok(0)},
		{-half, 1, 2 * half, ok(-1), ok(0), ok(0)},
		{-half - 1, 1, 2 * half, ok(-1), ok(0), ok(-1)},
		{1 << 62, 1, most, ok(0), ok(1), ok(1)},
		{1<<62 - 1, 1, most, ok(0), ok(1), ok(0)},
		{most - 1, 1, most, ok(0), ok(1), ok(1)},
	})
}

// P4.1: whole parts at the edges of 64 bits and beyond them, of products that need 128 bits too.
func TestPartsAtTheEdges(t *testing.T) {
	holdAll(t, []parts{
		{most, 1, 1, ok(most), ok(most), ok(most)},
		{least, 1, 1, ok(least), ok(least), ok(least)},
		{least, -1, 1, over, over, over},
		{most, -1, 1, ok(least + 1), ok(least + 1), ok(least + 1)},
		{most, 2, 1, over, over, over},
		{least, 2, 1, over, over, over},
		{most, most, most, ok(most), ok(most), ok(most)},
		{most, least, most, ok(least), ok(least), ok(least)},
		{least, least, most, over, over, over},
		{most, most, 1, over, over, over},
		{least, least, 1, over, over, over},
		{most, least, 1, over, over, over},
		{1 << 62, 4, 2, over, over, over},
		{-1 << 62, 4, 2, ok(least), ok(least), ok(least)},
	})
}

// P4.1: products that lie around the edges times a divisor: there one rounding may be of 64 bits, and another none.
func TestPartsJustBesideTheEdges(t *testing.T) {
	holdAll(t, []parts{
		// a half beside an edge: these products are 2^64 - 1, 2^64 + 1, and their other sides
		{4294967295, 4294967297, 2, ok(most), over, over},
		{-4294967295, 4294967297, 2, ok(least), ok(least + 1), ok(least + 1)},
		{67280421310721, 274177, 2, over, over, over},
		{-67280421310721, 274177, 2, over, ok(least), ok(least)},
		// tenths beside the upper edge: 9 and 5 below it, at it, 4, 5 and 8 above it, and 10
		{1512028202763078001, 61, 10, ok(most - 1), ok(most), ok(most - 1)},
		{7094901566811366005, 13, 10, ok(most - 1), ok(most), ok(most)},
		{most, 10, 10, ok(most), ok(most), ok(most)},
		{200073146135678434, 461, 10, ok(most), over, ok(most)},
		{6148914691236517205, 15, 10, ok(most), over, over},
		{7094901566811366006, 13, 10, ok(most), over, over},
		{5764607523034234880, 16, 10, over, over, over},
		// tenths beside the lower edge: 5 and 4 above it, at it, 1, 4, 6 and 9 below it, and 10
		{-6148914691236517205, 15, 10, ok(least), ok(least + 1), ok(least + 1)},
		{-3180473116156819244, 29, 10, ok(least), ok(least + 1), ok(least)},
		{-5764607523034234880, 16, 10, ok(least), ok(least), ok(least)},
		{-205420312624827969, 449, 10, over, ok(least), ok(least)},
		{7686143364045646507, -12, 10, over, ok(least), ok(least)},
		{-350698556534402122, 263, 10, over, ok(least), over},
		{913205152163839189, -101, 10, over, ok(least), over},
		{-6148914691236517206, 15, 10, over, over, over},
	})
}

// P4.1: a divisor below 1 is told first, also where the part would be none of 64 bits; a divisor of 1 is none of those.
func TestDivisorsBelowOne(t *testing.T) {
	for _, c := range []int{0, -1, -2, -one, least + 1, least} {
		holdAll(t, []parts{
			{0, 0, c, zero, zero, zero},
			{6, 7, c, zero, zero, zero},
			{-6, 7, c, zero, zero, zero},
			{most, most, c, zero, zero, zero},
			{least, least, c, zero, zero, zero},
			{most, least, c, zero, zero, zero},
		})
	}
	holdAll(t, []parts{{6, -7, 1, ok(-42), ok(-42), ok(-42)}, {least, -1, 1, over, over, over}})
}

// P4.2: whole segments, from below, of both signs.
func TestWhole(t *testing.T) {
	for _, c := range []struct{ n, want int }{
		{0, 0},
		{1, 0},
		{one - 1, 0},
		{one, 1},
		{one + 1, 1},
		{2*one - 1, 1},
		{10 * one, 10},
		{api.MaxSegs * one, api.MaxSegs},
		{-1, -1},
		{-one + 1, -1},
		{-one, -1},
		{-one - 1, -2},
		{most, 1<<47 - 1},
		{least, -1 << 47},
		{least + 1, -1 << 47},
	} {
		if n := frac.Whole(c.n); n != c.want {
			t.Errorf("Whole(%d): %d, not %d", c.n, n, c.want)
		}
	}
}

// P4.2: windows of bytes of both signs; segments of 0 bytes, and below, are divisors that may not be.
func TestSegs(t *testing.T) {
	for _, c := range []struct {
		bytes, seg int
		want       answer
	}{
		{0, 1, ok(0)},
		{0, 1460, ok(0)},
		{1, 1, ok(one)},
		{14600, 1460, ok(10 * one)},
		{1, 1460, ok(44)},
		{1459, 1460, ok(one - 45)},
		{-1, 1460, ok(-45)},
		{-1460, 1460, ok(-one)},
		{-1, 1, ok(-one)},
		{1, one, ok(1)},
		{1, one + 1, ok(0)},
		{-1, one + 1, ok(-1)},
		{1<<47 - 1, 1, ok((1<<47 - 1) * one)},
		{1 << 47, 1, over},
		{-1 << 47, 1, ok(least)},
		{-1<<47 - 1, 1, over},
		{most, one, ok(most)},
		{least, one, ok(least)},
		{most, one - 1, over},
		{least, one - 1, over},
		{most, most, ok(one)},
		{least, most, ok(-one - 1)},
		{5, 0, zero},
		{0, 0, zero},
		{5, -1, zero},
		{-5, -1, zero},
		{most, 0, zero},
		{most, -1, zero},
		{least, least, zero},
	} {
		if got := told(frac.Segs(c.bytes, c.seg)); got != c.want {
			t.Errorf("Segs(%d, %d): %v, not %v", c.bytes, c.seg, got, c.want)
		}
	}
}

// P4.2: bytes of windows of both signs; seg is a factor here, and so may be 0, and below.
func TestBytes(t *testing.T) {
	for _, c := range []struct {
		n, seg int
		want   answer
	}{
		{0, 1460, ok(0)},
		{10 * one, 1460, ok(14600)},
		{one, 1460, ok(1460)},
		{one - 1, 1460, ok(1459)},
		{1, 1460, ok(0)},
		{45, 1460, ok(1)},
		{44, 1460, ok(0)},
		{-1, 1460, ok(-1)},
		{-one, 1460, ok(-1460)},
		{-one - 1, 1460, ok(-1461)},
		{one, 1, ok(1)},
		{one - 1, 1, ok(0)},
		{-1, 1, ok(-1)},
		{one, 0, ok(0)},
		{most, 0, ok(0)},
		{least, 0, ok(0)},
		{one, -1, ok(-1)},
		{1, -1, ok(-1)},
		{-1, -1, ok(0)},
		{-one, -1460, ok(1460)},
		{one, most, ok(most)},
		{one, least, ok(least)},
		{one + 1, most, over},
		{one + 1, least, over},
		{-one, least, over},
		{-one, most, ok(-most)},
		{most, one, ok(most)},
		{least, one, ok(least)},
		{least, -one, over},
		{most, one + 1, over},
		{most, most, over},
		{least, least, over},
		{most, least, over},
	} {
		if got := told(frac.Bytes(c.n, c.seg)); got != c.want {
			t.Errorf("Bytes(%d, %d): %v, not %v", c.n, c.seg, got, c.want)
		}
	}
}

// P4.2: each is Floor of its numbers, errors included.
func TestWindowsAreFloors(t *testing.T) {
	for _, n := range telling() {
		if got, want := ok(frac.Whole(n)), told(frac.Floor(n, 1, one)); got != want {
			t.Errorf("Whole(%d): %v, not %v", n, got, want)
		}
		for _, seg := range telling() {
			if got, want := told(frac.Segs(n, seg)), told(frac.Floor(n, one, seg)); got != want {
				t.Errorf("Segs(%d, %d): %v, not %v", n, seg, got, want)
			}
			if got, want := told(frac.Bytes(n, seg)), told(frac.Floor(n, seg, one)); got != want {
				t.Errorf("Bytes(%d, %d): %v, not %v", n, seg, got, want)
			}
		}
	}
}

// P4.3: Floor is at most Near, that at most Ceil, and that at most one more than Floor, wherever they are told.
func TestOrderOfParts(t *testing.T) {
	for _, a := range telling() {
		for _, b := range telling() {
			for _, c := range divisors() {
				floor, near, ceil := told(frac.Floor(a, b, c)), told(frac.Near(a, b, c)), told(frac.Ceil(a, b, c))
				if !ordered(floor, near) || !ordered(near, ceil) || !ordered(floor, ceil) {
					t.Fatalf("%d, %d, %d: %v, %v, %v", a, b, c, floor, near, ceil)
				}
			}
		}
	}
}

// ordered: y is x, or one more, if both are told.
func ordered(x, y answer) bool {
	if x.err != api.OK || y.err != api.OK {
		return true
	}
	return x.n == y.n || x.n < most && x.n+1 == y.n
}

// P4.3: the whole bytes of a window are not more than its true bytes, and less than one fewer.
func TestBytesOfAWindow(t *testing.T) {
	for _, n := range telling() {
		for _, seg := range telling() {
			bytes, err := frac.Bytes(n, seg)
			if err != api.OK {
				continue
			}
			if fewer := new(exact.Int).Sub(product(n, seg), product(bytes, one)); fewer.Sign() < 0 || fewer.Cmp(whole(one)) >= 0 {
				t.Errorf("Bytes(%d, %d): %d", n, seg, bytes)
			}
		}
	}
}

// P4.3: a window of some bytes is not wider than they are, and less than one part of 2^16 of a segment narrower. That is less than one byte, if a segment has at most One of them; so its whole bytes are all of them, or one fewer.
func TestWindowOfBytes(t *testing.T) {
	for _, bytes := range telling() {
		for _, seg := range divisors() {
			n, err := frac.Segs(bytes, seg)
			if err != api.OK {
				continue
			}
			if fewer := new(exact.Int).Sub(product(bytes, one), product(n, seg)); fewer.Sign() < 0 || fewer.Cmp(whole(seg)) >= 0 {
				t.Errorf("Segs(%d, %d): %d", bytes, seg, n)
			}
			back, err := frac.Bytes(n, seg)
			if err == api.OK && back > bytes {
				t.Errorf("Segs(%d, %d): %d, which has %d bytes", bytes, seg, n, back)
			}
			if seg <= one && err == api.OK && back != bytes && back != bytes-1 {
				t.Errorf("Segs(%d, %d): %d, which has %d bytes", bytes, seg, n, back)
			}
		}
	}
}
