package root_test

import (
	"math"
	exact "math/big"
	"testing"

	"sawtooth/api"
	"sawtooth/big"
	"sawtooth/root"
)

const (
	full      = math.MaxUint64
	top       = 1 << 63
	mostThird = 6981463658331 // its cube is the last one below 2^128
)

func pos(hi, lo uint64) api.Big { return api.Big{Hi: hi, Lo: lo} }
func neg(hi, lo uint64) api.Big { return api.Big{Neg: true, Hi: hi, Lo: lo} }

// other is x with the other sign, 0 too, as made by hand.
func other(x api.Big) api.Big { return api.Big{Neg: !x.Neg, Hi: x.Hi, Lo: x.Lo} }

func whole(n uint64) *exact.Int { return new(exact.Int).SetUint64(n) }

// power is the true one.
func power(n *exact.Int, by int64) *exact.Int { return new(exact.Int).Exp(n, exact.NewInt(by), nil) }

func more(n *exact.Int, by int64) *exact.Int { return new(exact.Int).Add(n, exact.NewInt(by)) }

// size is the true one of x.
func size(x api.Big) *exact.Int {
	n := new(exact.Int).Lsh(whole(x.Hi), 64)
	return n.Add(n, whole(x.Lo))
}

// told is how n, 0 or above it, is to be told: 0 and ErrOver, if it is 2^128, or more.
func told(n *exact.Int) (api.Big, api.Errno) {
	if n.BitLen() > 128 {
		return api.Big{}, api.ErrOver
	}
	hi := new(exact.Int).Rsh(n, 64)
	lo := new(exact.Int).And(n, whole(full))
	return pos(hi.Uint64(), lo.Uint64()), api.OK
}

// bases are numbers whose powers are told: small ones, powers of 2, those around the greatest third, and the greatest; each with its neighbours.
func bases() []uint64 {
	var l []uint64
	for n := range uint64(300) {
		l = append(l, n)
	}
	for _, n := range []uint64{1000, 2642245, 999983, 2154434, 10000000000, 0xdeadbeefcafe, mostThird, 0x123456789abcdef0, full / 3} {
		l = append(l, n-1, n, n+1)
	}
	for i := range 63 {
		n := uint64(2) << i
		l = append(l, n-1, n, n+1)
	}
	return append(l, full-1, full)
}

// sizes are those around each cube and each square that there is of bases, and at the edges of both halves.
func sizes() []api.Big {
	var l []api.Big
	for _, n := range bases() {
		for _, by := range []int64{2, 3} {
			for _, d := range []int64{-1, 0, 1} {
				at := more(power(whole(n), by), d)
				if x, err := told(at); at.Sign() >= 0 && err == api.OK {
					l = append(l, x)
				}
			}
		}
	}
	for _, hi := range []uint64{0, 1, 2, 6700417, 1 << 32, top - 1, top, full / 3, full - 1, full} {
		for _, lo := range []uint64{0, 1, 2, 7, 1 << 32, top - 1, top, top + 1, full - 1, full} {
			l = append(l, pos(hi, lo))
		}
	}
	return l
}

// isRoot tells whether n is the greatest number whose power is at most x's size.
func isRoot(n uint64, by int64, x api.Big) bool {
	return power(whole(n), by).Cmp(size(x)) <= 0 && power(more(whole(n), 1), by).Cmp(size(x)) > 0
}

// P3.1: powers are as the true ones, or refused with 0 beside the error.
func TestPowersAsTheTrueNumber(t *testing.T) {
	for _, n := range bases() {
		want, wantErr := told(power(whole(n), 3))
		if x, err := root.Cube(n); x != want || err != wantErr {
			t.Errorf("Cube(%d): %v, %v, not %v, %v", n, x, err, want, wantErr)
		}
		want, _ = told(power(whole(n), 2))
		if x := root.Square(n); x != want {
			t.Errorf("Square(%d): %v, not %v", n, x, want)
		}
	}
}

// P3.1: cubes of 0, at 2^64, just below 2^128, and beyond, where those count too that would go round to 0 or to a small number.
func TestCube(t *testing.T) {
	for _, c := range []struct {
		n    uint64
		want api.Big
		err  api.Errno
	}{
		{0, pos(0, 0), api.OK},
		{1, pos(0, 1), api.OK},
		{3, pos(0, 27), api.OK},
		{1000, pos(0, 1000000000), api.OK},
		{1 << 21, pos(0, 1<<63), api.OK},
		{1 << 22, pos(4, 0), api.OK},
		{1 << 42, pos(1<<62, 0), api.OK},
		{mostThird, pos(18446744073705119837, 18373125519973672099), api.OK},
		{mostThird + 1, pos(0, 0), api.ErrOver},
		{1<<43 - 1, pos(0, 0), api.ErrOver},
		{1 << 43, pos(0, 0), api.ErrOver},
		{1 << 44, pos(0, 0), api.ErrOver},
		{1 << 63, pos(0, 0), api.ErrOver},
		{full, pos(0, 0), api.ErrOver},
	} {
		if x, err := root.Cube(c.n); x != c.want || err != c.err {
			t.Errorf("Cube(%d): %v, %v, not %v, %v", c.n, x, err, c.want, c.err)
		}
	}
}

// P3.1: squares, up to that of the greatest number of 64 bits.
func TestSquare(t *testing.T) {
	for _, c := range []struct {
		n    uint64
		want api.Big
	}{
		{0, pos(0, 0)},
		{1, pos(0, 1)},
		{12, pos(0, 144)},
		{1<<32 - 1, pos(0, full-1<<33+2)},
		{1 << 32, pos(1, 0)},
		{1<<32 + 1, pos(1, 1<<33+1)},
		{1 << 63, pos(1<<62, 0)},
		{full - 1, pos(full-3, 4)},
		{full, pos(full-1, 1)},
	} {
		if x := root.Square(c.n); x != c.want {
			t.Errorf("Square(%d): %v, not %v", c.n, x, c.want)
		}
	}
}

// P3.2: third roots of small numbers, of powers and their neighbours, and at the greatest sizes.
func TestThird(t *testing.T) {
	last, _ := told(power(whole(mostThird), 3))
	before, _ := told(more(size(last), -1))
	after, _ := told(more(size(last), 1))
	for _, c := range []struct {
		x    api.Big
		want uint64
	}{
		{pos(0, 0), 0},
		{pos(0, 1), 1},
		{pos(0, 2), 1},
		{pos(0, 7), 1},
		{pos(0, 8), 2},
		{pos(0, 9), 2},
		{pos(0, 26), 2},
		{pos(0, 27), 3},
		{pos(0, 28), 3},
		{pos(0, 1<<63-1), 1<<21 - 1},
		{pos(0, 1<<63), 1 << 21},
		{pos(0, full), 2642245},
		{pos(1, 0), 2642245},
		{pos(3, full), 1<<22 - 1},
		{pos(4, 0), 1 << 22},
		{pos(1<<62-1, full), 1<<42 - 1},
		{pos(1<<62, 0), 1 << 42},
		{before, mostThird - 1},
		{last, mostThird},
		{after, mostThird},
		{pos(full, full), mostThird},
	} {
		for _, x := range []api.Big{c.x, other(c.x)} {
			if n := root.Third(x); n != c.want {
				t.Errorf("Third(%v): %d, not %d", x, n, c.want)
			}
		}
	}
}

// P3.2: square roots of small numbers, of powers and their neighbours, and at the greatest sizes.
func TestHalf(t *testing.T) {
	for _, c := range []struct {
		x    api.Big
		want uint64
	}{
		{pos(0, 0), 0},
		{pos(0, 1), 1},
		{pos(0, 2), 1},
		{pos(0, 3), 1},
		{pos(0, 4), 2},
		{pos(0, 8), 2},
		{pos(0, 9), 3},
		{pos(0, 10), 3},
		{pos(0, full), 1<<32 - 1},
		{pos(1, 0), 1 << 32},
		{pos(1, 1<<33), 1 << 32},
		{pos(1, 1<<33+1), 1<<32 + 1},
		{pos(1<<62-1, full), 1<<63 - 1},
		{pos(1<<62, 0), 1 << 63},
		{pos(full-1, 0), full - 1},
		{pos(full-1, 1), full},
		{pos(full-1, 2), full},
		{pos(full, full), full},
	} {
		for _, x := range []api.Big{c.x, other(c.x)} {
			if n := root.Half(x); n != c.want {
				t.Errorf("Half(%v): %d, not %d", x, n, c.want)
			}
		}
	}
}

// P3.2: roots of all sizes that tell, of both signs, are the greatest numbers whose powers are not above them; the true powers are asked, for one more may have a power beyond 2^128.
func TestRootsAsTheTrueNumber(t *testing.T) {
	for _, plain := range sizes() {
		for _, x := range []api.Big{plain, other(plain)} {
			if n := root.Third(x); !isRoot(n, 3, x) {
				t.Errorf("Third(%v): %d", x, n)
			}
			if n := root.Half(x); !isRoot(n, 2, x) {
				t.Errorf("Half(%v): %d", x, n)
			}
		}
	}
}

// P3.3: a root of a power is what that is of; one below the power it is one less.
func TestRootOfAPower(t *testing.T) {
	one := neg(0, 1)
	for _, n := range bases()[1:] {
		square := root.Square(n)
		if m := root.Half(square); m != n {
			t.Errorf("Half of the square of %d: %d", n, m)
		}
		below, _ := big.Add(square, one)
		if m := root.Half(below); m != n-1 {
			t.Errorf("Half of one below the square of %d: %d", n, m)
		}
		cube, err := root.Cube(n)
		if err != api.OK {
			continue
		}
		if m := root.Third(cube); m != n {
			t.Errorf("Third of the cube of %d: %d", n, m)
		}
		below, _ = big.Add(cube, one)
		if m := root.Third(below); m != n-1 {
			t.Errorf("Third of one below the cube of %d: %d", n, m)
		}
	}
}

// P3.3: of a greater number a root is no less.
func TestGreaterNumbersHaveNoLesserRoots(t *testing.T) {
	l := sizes()
	for i, x := range l {
		for _, y := range []api.Big{l[(i+1)%len(l)], l[(i*7+3)%len(l)], pos(full, full), pos(0, 0)} {
			less, great := x, y
			if big.Cmp(less, great) > 0 {
				less, great = great, less
			}
			if root.Third(less) > root.Third(great) || root.Half(less) > root.Half(great) {
				t.Errorf("%v, %v: %d, %d; %d, %d", less, great, root.Third(less), root.Third(great), root.Half(less), root.Half(great))
			}
		}
	}
}

// P3.3: one more than a root has a greater cube than the number, or one that is too great to be told; so has it a greater square.
func TestOneMoreHasAGreaterPower(t *testing.T) {
	for _, x := range sizes() {
		n := root.Third(x)
		if cube, err := root.Cube(n + 1); err == api.OK && big.Cmp(cube, x) <= 0 {
			t.Errorf("Third(%v): %d, and one more has the cube %v", x, n, cube)
		}
		n = root.Half(x)
		if n == full {
			continue
		}
		if square := root.Square(n + 1); big.Cmp(square, x) <= 0 {
			t.Errorf("Half(%v): %d, and one more has the square %v", x, n, square)
		}
	}
}
