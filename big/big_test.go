package big_test

import (
	"math"
	exact "math/big"
	"testing"

	"sawtooth/api"
	"sawtooth/big"
)

const (
	most  = math.MaxInt64
	least = math.MinInt64
	full  = math.MaxUint64
	top   = 1 << 63
)

func pos(hi, lo uint64) api.Big { return api.Big{Hi: hi, Lo: lo} }
func neg(hi, lo uint64) api.Big { return api.Big{Neg: true, Hi: hi, Lo: lo} }

// numbers are all that tell: sizes around 0, 2^63, 2^64, 2^96, 2^127 and just below 2^128, with each sign; so 0 has one too, as made by hand.
func numbers() []api.Big {
	var l []api.Big
	for _, hi := range []uint64{0, 1, 2, 6700417, 1 << 32, top - 1, top, full / 3, full - 1, full} {
		for _, lo := range []uint64{0, 1, 2, 7, 1 << 32, top - 1, top, top + 1, full - 1, full} {
			l = append(l, pos(hi, lo), neg(hi, lo))
		}
	}
	return l
}

// factors are numbers without a sign by which others are multiplied and divided.
func factors() []uint64 {
	return []uint64{0, 1, 2, 3, 7, 10, 1000003, 1<<32 - 1, 1 << 32, 1<<32 + 1, top - 1, top, top + 1, full - 1, full}
}

// smalls are numbers of 64 bits, at their edges and within.
func smalls() []int {
	return []int{0, 1, -1, 2, -2, 7, -7, 1 << 31, -1 << 31, 1<<32 + 1, -1<<32 - 1, 3037000499, 3037000500, 1 << 62, -1 << 62, most - 1, most, least + 1, least}
}

func whole(n int) *exact.Int { return exact.NewInt(int64(n)) }

func plainOf(n uint64) *exact.Int { return new(exact.Int).SetUint64(n) }

// truth is the number that x means.
func truth(x api.Big) *exact.Int {
	n := new(exact.Int).Lsh(plainOf(x.Hi), 64)
	n.Add(n, plainOf(x.Lo))
	if x.Neg {
		n.Neg(n)
	}
	return n
}

// answer is how n is to be told: 0 and ErrOver, if its size is 2^128, or more.
func answer(n *exact.Int) (api.Big, api.Errno) {
	if n.BitLen() > 128 {
		return api.Big{}, api.ErrOver
	}
	size := new(exact.Int).Abs(n)
	hi := new(exact.Int).Rsh(size, 64)
	lo := new(exact.Int).And(size, plainOf(full))
	return api.Big{Neg: n.Sign() < 0, Hi: hi.Uint64(), Lo: lo.Uint64()}, api.OK
}

// asTrue holds what is told against the true number.
func asTrue(t *testing.T, name string, x, y any, n *exact.Int, got api.Big, err api.Errno) {
	t.Helper()
	if want, wantErr := answer(n); got != want || err != wantErr {
		t.Errorf("%s of %v and %v: %v, %v, not %v, %v", name, x, y, got, err, want, wantErr)
	}
}

// P2.1: numbers and products of 64 bits are as the true ones, at all edges.
func TestOfAndMulAsTheTrueNumber(t *testing.T) {
	for _, a := range smalls() {
		asTrue(t, "Of", a, nil, whole(a), big.Of(a), api.OK)
		for _, b := range smalls() {
			asTrue(t, "Mul", a, b, new(exact.Int).Mul(whole(a), whole(b)), big.Mul(a, b), api.OK)
		}
	}
}

// P2.1: the edges of Of; 0 has no sign, and -2^63 has its whole size.
func TestOf(t *testing.T) {
	for _, c := range []struct {
		n    int
		want api.Big
	}{
		{0, pos(0, 0)},
		{1, pos(0, 1)},
		{-1, neg(0, 1)},
		{most, pos(0, top-1)},
		{least + 1, neg(0, top-1)},
		{least, neg(0, top)},
	} {
		if x := big.Of(c.n); x != c.want {
			t.Errorf("Of(%d): %v, not %v", c.n, x, c.want)
		}
	}
}

// P2.1: products of both signs, of 0, and of the edges.
func TestMul(t *testing.T) {
	for _, c := range []struct {
		a, b int
		want api.Big
	}{
		{6, 7, pos(0, 42)},
		{-6, 7, neg(0, 42)},
		{6, -7, neg(0, 42)},
		{-6, -7, pos(0, 42)},
		{0, least, pos(0, 0)},
		{-1, 0, pos(0, 0)},
		{least, -1, pos(0, top)},
		{1 << 32, 1 << 32, pos(1, 0)},
		{-1 << 32, 1 << 32, neg(1, 0)},
		{most, most, pos(top/2-1, 1)},
		{most, least, neg(top/2-1, top)},
		{least, least, pos(top/2, 0)},
	} {
		if x := big.Mul(c.a, c.b); x != c.want {
			t.Errorf("Mul(%d, %d): %v, not %v", c.a, c.b, x, c.want)
		}
	}
}

// P2.1, P2.2: sums, signs and order of all numbers that tell, those made by hand too.
func TestSumsAndOrderAsTheTrueNumber(t *testing.T) {
	for _, x := range numbers() {
		asTrue(t, "Neg", x, nil, new(exact.Int).Neg(truth(x)), big.Neg(x), api.OK)
		for _, y := range numbers() {
			got, err := big.Add(x, y)
			asTrue(t, "Add", x, y, new(exact.Int).Add(truth(x), truth(y)), got, err)
			if n, want := big.Cmp(x, y), truth(x).Cmp(truth(y)); n != want {
				t.Errorf("Cmp(%v, %v): %d, not %d", x, y, n, want)
			}
		}
	}
}

// P2.1: sums just below, and at, 2^128, and of numbers made by hand.
func TestAdd(t *testing.T) {
	for _, c := range []struct {
		x, y, want api.Big
		err        api.Errno
	}{
		{pos(0, 2), pos(0, 3), pos(0, 5), api.OK},
		{pos(0, 2), neg(0, 3), neg(0, 1), api.OK},
		{neg(0, 2), pos(0, 3), pos(0, 1), api.OK},
		{neg(0, 2), neg(0, 3), neg(0, 5), api.OK},
		{pos(0, full), pos(0, 1), pos(1, 0), api.OK},
		{pos(1, 0), neg(0, 1), pos(0, full), api.OK},
		{neg(1, 0), pos(0, 1), neg(0, full), api.OK},
		{pos(full, full-1), pos(0, 1), pos(full, full), api.OK},
		{pos(full, full), pos(0, 1), pos(0, 0), api.ErrOver},
		{neg(full, full-1), neg(0, 1), neg(full, full), api.OK},
		{neg(full, full), neg(0, 1), pos(0, 0), api.ErrOver},
		{pos(top, 0), pos(top, 0), pos(0, 0), api.ErrOver},
		{neg(top, 0), neg(top, 0), pos(0, 0), api.ErrOver},
		{pos(full, full), neg(full, full), pos(0, 0), api.OK},
		{neg(full, full), pos(full, full), pos(0, 0), api.OK},
		{neg(0, 0), neg(0, 0), pos(0, 0), api.OK},
		{neg(0, 0), pos(0, 0), pos(0, 0), api.OK},
		{neg(0, 0), pos(0, 4), pos(0, 4), api.OK},
		{neg(0, 0), neg(full, full), neg(full, full), api.OK},
	} {
		if x, err := big.Add(c.x, c.y); x != c.want || err != c.err {
			t.Errorf("Add(%v, %v): %v, %v, not %v, %v", c.x, c.y, x, err, c.want, c.err)
		}
	}
}

// P2.1: the other sign; 0 has none, whichever was handed in.
func TestNeg(t *testing.T) {
	for _, c := range []struct{ x, want api.Big }{
		{pos(0, 5), neg(0, 5)},
		{neg(0, 5), pos(0, 5)},
		{pos(0, 0), pos(0, 0)},
		{neg(0, 0), pos(0, 0)},
		{pos(1, 0), neg(1, 0)},
		{neg(1, 0), pos(1, 0)},
		{pos(full, full), neg(full, full)},
	} {
		if x := big.Neg(c.x); x != c.want {
			t.Errorf("Neg(%v): %v, not %v", c.x, x, c.want)
		}
	}
}

// P2.2: which of two is greater; a 0 with a sign is 0.
func TestCmp(t *testing.T) {
	for _, c := range []struct {
		x, y api.Big
		want int
	}{
		{pos(0, 0), neg(0, 0), 0},
		{neg(0, 0), pos(0, 0), 0},
		{neg(0, 0), neg(0, 1), 1},
		{neg(0, 0), pos(0, 1), -1},
		{neg(0, 1), neg(0, 0), -1},
		{pos(0, 2), pos(0, 3), -1},
		{neg(0, 2), neg(0, 3), 1},
		{neg(0, 3), pos(0, 2), -1},
		{pos(1, 0), pos(0, full), 1},
		{neg(1, 0), neg(0, full), -1},
		{pos(1, 5), pos(1, 5), 0},
		{neg(1, 5), neg(1, 5), 0},
		{pos(1, 5), neg(1, 5), 1},
		{neg(full, full), pos(full, full), -1},
	} {
		if n := big.Cmp(c.x, c.y); n != c.want {
			t.Errorf("Cmp(%v, %v): %d, not %d", c.x, c.y, n, c.want)
		}
	}
}

// P2.2: within the edges a number is itself, beyond them it is held.
func TestInt(t *testing.T) {
	for _, c := range []struct {
		x    api.Big
		want int
	}{
		{pos(0, 0), 0},
		{neg(0, 0), 0},
		{pos(0, 9), 9},
		{neg(0, 9), -9},
		{pos(0, top-2), most - 1},
		{pos(0, top-1), most},
		{pos(0, top), most},
		{pos(0, full), most},
		{pos(1, 0), most},
		{pos(1, 5), most},
		{pos(full, full), most},
		{neg(0, top-1), least + 1},
		{neg(0, top), least},
		{neg(0, top+1), least},
		{neg(0, full), least},
		{neg(1, 0), least},
		{neg(1, 5), least},
		{neg(full, full), least},
	} {
		if n := big.Int(c.x); n != c.want {
			t.Errorf("Int(%v): %d, not %d", c.x, n, c.want)
		}
	}
	for _, n := range smalls() {
		if m := big.Int(big.Of(n)); m != n {
			t.Errorf("Int(Of(%d)): %d", n, m)
		}
	}
}

// P2.3: products and quotients of all numbers that tell; a quotient is taken from below, as Euclid's is of a divisor above 0.
func TestScaleAndDivAsTheTrueNumber(t *testing.T) {
	for _, x := range numbers() {
		for _, n := range factors() {
			got, err := big.Scale(x, n)
			asTrue(t, "Scale", x, n, new(exact.Int).Mul(truth(x), plainOf(n)), got, err)
			if n == 0 {
				continue
			}
			q, left, err := big.Div(x, n)
			quotient, rest := new(exact.Int).DivMod(truth(x), plainOf(n), new(exact.Int))
			asTrue(t, "Div", x, n, quotient, q, err)
			if left != rest.Uint64() {
				t.Errorf("Div(%v, %d) leaves %d, not %v", x, n, left, rest)
			}
		}
	}
}

// P2.3: products just below, and at, 2^128, by the upper half alone and by what is carried into it.
func TestScale(t *testing.T) {
	for _, c := range []struct {
		x    api.Big
		n    uint64
		want api.Big
		err  api.Errno
	}{
		{pos(0, 6), 7, pos(0, 42), api.OK},
		{neg(0, 6), 7, neg(0, 42), api.OK},
		{neg(0, 6), 0, pos(0, 0), api.OK},
		{neg(full, full), 0, pos(0, 0), api.OK},
		{neg(0, 0), 5, pos(0, 0), api.OK},
		{neg(0, 0), full, pos(0, 0), api.OK},
		{pos(0, full), full, pos(full-1, 1), api.OK},
		{pos(full, full), 1, pos(full, full), api.OK},
		{pos(1, 1), full, pos(full, full), api.OK},
		{neg(1, 1), full, neg(full, full), api.OK},
		{pos(1, 2), full, pos(0, 0), api.ErrOver},
		{neg(1, 2), full, pos(0, 0), api.ErrOver},
		{pos(top-1, full), 2, pos(full, full-1), api.OK},
		{pos(top, 0), 2, pos(0, 0), api.ErrOver},
		{neg(top, 0), 2, pos(0, 0), api.ErrOver},
		{pos(2, 0), top, pos(0, 0), api.ErrOver},
		{pos(full, full), full, pos(0, 0), api.ErrOver},
	} {
		if x, err := big.Scale(c.x, c.n); x != c.want || err != c.err {
			t.Errorf("Scale(%v, %d): %v, %v, not %v, %v", c.x, c.n, x, err, c.want, c.err)
		}
	}
}

// P2.3: quotients of both signs, at the greatest size, of 0 made by hand, and by 0.
func TestDiv(t *testing.T) {
	for _, c := range []struct {
		x    api.Big
		d    uint64
		want api.Big
		left uint64
		err  api.Errno
	}{
		{pos(0, 7), 2, pos(0, 3), 1, api.OK},
		{neg(0, 7), 2, neg(0, 4), 1, api.OK},
		{neg(0, 8), 2, neg(0, 4), 0, api.OK},
		{neg(0, 1), full, neg(0, 1), full - 1, api.OK},
		{pos(0, 1), full, pos(0, 0), 1, api.OK},
		{neg(1, 0), 3, neg(0, full/3+1), 2, api.OK},
		{neg(1, full), 2, neg(1, 0), 1, api.OK},
		{neg(0, 0), 2, pos(0, 0), 0, api.OK},
		{neg(full, full), 1, neg(full, full), 0, api.OK},
		{pos(full, full), 1, pos(full, full), 0, api.OK},
		{neg(full, full), 2, neg(top, 0), 1, api.OK},
		{pos(full, full), 2, pos(top-1, full), 1, api.OK},
		{pos(full, full), full, pos(1, 1), 0, api.OK},
		{neg(full, full), full, neg(1, 1), 0, api.OK},
		{pos(0, 7), 0, pos(0, 0), 0, api.ErrZero},
		{neg(0, 7), 0, pos(0, 0), 0, api.ErrZero},
		{pos(0, 0), 0, pos(0, 0), 0, api.ErrZero},
		{neg(0, 0), 0, pos(0, 0), 0, api.ErrZero},
		{neg(full, full), 0, pos(0, 0), 0, api.ErrZero},
	} {
		if q, left, err := big.Div(c.x, c.d); q != c.want || left != c.left || err != c.err {
			t.Errorf("Div(%v, %d): %v, %d, %v, not %v, %d, %v", c.x, c.d, q, left, err, c.want, c.left, c.err)
		}
	}
}

// P2.4: what was divided comes back from its quotient and from what is left over. The product itself may be too great, by less than one divisor, and so it is asked of the true numbers.
func TestWhatWasDividedComesBack(t *testing.T) {
	for _, x := range numbers() {
		for _, d := range factors()[1:] {
			q, left, err := big.Div(x, d)
			if err != api.OK || left >= d {
				t.Errorf("Div(%v, %d): %v, %d, %v", x, d, q, left, err)
			}
			back := new(exact.Int).Mul(truth(q), plainOf(d))
			if back.Add(back, plainOf(left)).Cmp(truth(x)) != 0 {
				t.Errorf("Div(%v, %d): %v, %d are of %v", x, d, q, left, back)
			}
			product, err := big.Scale(q, d)
			if err != api.OK {
				continue
			}
			if again, err := big.Add(product, pos(0, left)); err != api.OK || big.Cmp(again, x) != 0 {
				t.Errorf("Div(%v, %d): %v, %d come back as %v, %v", x, d, q, left, again, err)
			}
		}
	}
}

// P2.4: what is added is taken away again.
func TestWhatIsAddedIsTakenAway(t *testing.T) {
	for _, x := range numbers() {
		for _, y := range numbers() {
			n, err := big.Add(x, y)
			if err != api.OK {
				continue
			}
			if again, err := big.Add(n, big.Neg(y)); err != api.OK || big.Cmp(again, x) != 0 {
				t.Errorf("%v and %v, less that: %v, %v", x, y, again, err)
			}
		}
	}
}
