package safe_test

import (
	"math"
	"math/big"
	"testing"

	"sawtooth/api"
	"sawtooth/safe"
)

const (
	most  = math.MaxInt64
	least = math.MinInt64
)

// telling are numbers around which a sum, a difference or a product comes to an edge: 0, halves, roots and thirds of the edges, and the edges, each with its neighbours and its other sign.
func telling() []int {
	var l []int
	for _, n := range []int{0, 1, 3, 10, 1000003, 1 << 31, 3037000499, 1 << 32, most / 7, most / 3, 1 << 61, 1 << 62, most - 1} {
		for _, m := range []int{n - 1, n, n + 1} {
			l = append(l, m, -m)
		}
	}
	return append(l, least)
}

func large(n int) *big.Int { return big.NewInt(int64(n)) }

// nearest is the number of 64 bits that is nearest to n, and whether it is n.
func nearest(n *big.Int) (int, bool) {
	if n.Cmp(large(most)) > 0 {
		return most, false
	}
	if n.Cmp(large(least)) < 0 {
		return least, false
	}
	return int(n.Int64()), true
}

// asTrue holds a call that is held, and one that tells an error (if there is one), against the true number.
func asTrue(t *testing.T, name string, a, b int, truth *big.Int, got int, strict func(a, b int) (int, api.Errno)) {
	t.Helper()
	want, fits := nearest(truth)
	if got != want {
		t.Errorf("%s of %d and %d: %d, not %d", name, a, b, got, want)
	}
	if strict == nil {
		return
	}
	wantErr := api.OK
	if !fits {
		want, wantErr = 0, api.ErrOver
	}
	if n, err := strict(a, b); n != want || err != wantErr {
		t.Errorf("%s of %d and %d, with an error: %d, %v, not %d, %v", name, a, b, n, err, want, wantErr)
	}
}

// P1.1, P1.3: all that is held, or told to be too great, is as the true number says, which is nearest.
func TestAsTheTrueNumber(t *testing.T) {
	for _, a := range telling() {
		asTrue(t, "Abs", a, 0, new(big.Int).Abs(large(a)), safe.Abs(a), nil)
		for _, b := range telling() {
			asTrue(t, "sum", a, b, new(big.Int).Add(large(a), large(b)), safe.Add(a, b), safe.Plus)
			asTrue(t, "difference", a, b, new(big.Int).Sub(large(a), large(b)), safe.Sub(a, b), nil)
			asTrue(t, "product", a, b, new(big.Int).Mul(large(a), large(b)), safe.Mul(a, b), safe.Times)
		}
	}
}

// P1.1: sums and differences, just within and just beyond the edges.
func TestSumsAtTheEdges(t *testing.T) {
	for _, c := range []struct {
		a, b, add, sub int
		plus           api.Errno
	}{
		{2, 3, 5, -1, api.OK},
		{-2, 3, 1, -5, api.OK},
		{most, 0, most, most, api.OK},
		{least, 0, least, least, api.OK},
		{most - 1, 1, most, most - 2, api.OK},
		{most, 1, most, most - 1, api.ErrOver},
		{most, -1, most - 1, most, api.OK},
		{most - 1, -1, most - 2, most, api.OK},
		{least + 1, -1, least, least + 2, api.OK},
		{least, -1, least, least + 1, api.ErrOver},
		{least, 1, least + 1, least, api.OK},
		{least + 1, 1, least + 2, least, api.OK},
		{1 << 62, 1 << 62, most, 0, api.ErrOver},
		{1 << 62, 1<<62 - 1, most, 1, api.OK},
		{-1 << 62, -1 << 62, least, 0, api.OK},
		{-1 << 62, -1<<62 - 1, least, 1, api.ErrOver},
		{0, least, least, most, api.OK},
		{-1, least, least, most, api.ErrOver},
		{-2, least, least, most - 1, api.ErrOver},
		{most, least, -1, most, api.OK},
		{least, most, -1, least, api.OK},
		{most, most, most, 0, api.ErrOver},
		{least, least, least, 0, api.ErrOver},
	} {
		if n := safe.Add(c.a, c.b); n != c.add {
			t.Errorf("Add(%d, %d): %d, not %d", c.a, c.b, n, c.add)
		}
		if n := safe.Sub(c.a, c.b); n != c.sub {
			t.Errorf("Sub(%d, %d): %d, not %d", c.a, c.b, n, c.sub)
		}
		want := c.add
		if c.plus != api.OK {
			want = 0
		}
		if n, err := safe.Plus(c.a, c.b); n != want || err != c.plus {
			t.Errorf("Plus(%d, %d): %d, %v, not %d, %v", c.a, c.b, n, err, want, c.plus)
		}
	}
}

// P1.1: products, just within and just beyond the edges; least by -1 above all, which goes round when it is divided too.
func TestProductsAtTheEdges(t *testing.T) {
	for _, c := range []struct {
		a, b, mul int
		times     api.Errno
	}{
		{6, 7, 42, api.OK},
		{-6, 7, -42, api.OK},
		{-6, -7, 42, api.OK},
		{0, least, 0, api.OK},
		{least, 0, 0, api.OK},
		{most, 1, most, api.OK},
		{most, -1, least + 1, api.OK},
		{least, 1, least, api.OK},
		{least, -1, most, api.ErrOver},
		{-1, least, most, api.ErrOver},
		{least, 2, least, api.ErrOver},
		{least, -2, most, api.ErrOver},
		{most, 2, most, api.ErrOver},
		{most, -2, least, api.ErrOver},
		{most / 7, 7, most, api.OK},
		{most/7 + 1, 7, most, api.ErrOver},
		{most / 7, -7, least + 1, api.OK},
		{most/7 + 1, -7, least, api.ErrOver},
		{1 << 31, 1 << 32, most, api.ErrOver},
		{-1 << 31, 1 << 32, least, api.OK},
		{-1 << 31, 1<<32 + 1, least, api.ErrOver},
		{1 << 32, 1 << 32, most, api.ErrOver},
		{-1 << 32, 1 << 32, least, api.ErrOver},
		{-1 << 62, 4, least, api.ErrOver},
		{most, most, most, api.ErrOver},
		{most, least, least, api.ErrOver},
		{least, least, most, api.ErrOver},
	} {
		if n := safe.Mul(c.a, c.b); n != c.mul {
			t.Errorf("Mul(%d, %d): %d, not %d", c.a, c.b, n, c.mul)
		}
		want := c.mul
		if c.times != api.OK {
			want = 0
		}
		if n, err := safe.Times(c.a, c.b); n != want || err != c.times {
			t.Errorf("Times(%d, %d): %d, %v, not %d, %v", c.a, c.b, n, err, want, c.times)
		}
	}
}

// P1.1: a number without its sign; least has none, and is held.
func TestAbs(t *testing.T) {
	for _, c := range []struct{ a, want int }{{0, 0}, {1, 1}, {-1, 1}, {77, 77}, {-77, 77}, {most, most}, {-most, most}, {least, most}} {
		if n := safe.Abs(c.a); n != c.want {
			t.Errorf("Abs(%d): %d, not %d", c.a, n, c.want)
		}
	}
}

// P1.2: between both bounds, at them, beyond them; and with low above high, where low is asked for first.
func TestClamp(t *testing.T) {
	for _, c := range []struct{ a, low, high, want int }{
		{4, 2, 6, 4},
		{2, 2, 6, 2},
		{1, 2, 6, 2},
		{6, 2, 6, 6},
		{7, 2, 6, 6},
		{-9, -5, -3, -5},
		{0, -5, -3, -3},
		{8, 5, 5, 5},
		{least, -1, 1, -1},
		{most, -1, 1, 1},
		{least, least, most, least},
		{most, least, most, most},
		{0, 6, 2, 6},
		{2, 6, 2, 6},
		{4, 6, 2, 6},
		{6, 6, 2, 2},
		{9, 6, 2, 2},
		{0, most, least, most},
		{most, most, least, least},
		{least, most, least, most},
	} {
		if n := safe.Clamp(c.a, c.low, c.high); n != c.want {
			t.Errorf("Clamp(%d, %d, %d): %d, not %d", c.a, c.low, c.high, n, c.want)
		}
	}
}

// P1.3: the order of two numbers does not matter, be they too great or not.
func TestOrderDoesNotMatter(t *testing.T) {
	for _, a := range telling() {
		for _, b := range telling() {
			if safe.Add(a, b) != safe.Add(b, a) || safe.Mul(a, b) != safe.Mul(b, a) {
				t.Errorf("%d and %d: Add %d, %d; Mul %d, %d", a, b, safe.Add(a, b), safe.Add(b, a), safe.Mul(a, b), safe.Mul(b, a))
			}
			n, e := safe.Plus(a, b)
			m, f := safe.Plus(b, a)
			if n != m || e != f {
				t.Errorf("%d and %d: Plus %d, %v; %d, %v", a, b, n, e, m, f)
			}
			n, e = safe.Times(a, b)
			m, f = safe.Times(b, a)
			if n != m || e != f {
				t.Errorf("%d and %d: Times %d, %v; %d, %v", a, b, n, e, m, f)
			}
		}
	}
}
