// Package safe is layer 1: whole numbers that do not go round: see shared/doc/01-safe.md.
package safe

import (
	"sawtooth/api"
)

const (
	most  = 1<<63 - 1
	least = -1 << 63
)

// Plus and Times are for those who must know that a number is too great; the others go on with the nearest one.
func Plus(a, b int) (int, api.Errno) {
	return unlessOver(sum(a, b))
}

func Times(a, b int) (int, api.Errno) {
	return unlessOver(product(a, b))
}

// Add is held at the edge that a lies towards: only two numbers of one sign have a sum that is beyond.
func Add(a, b int) int {
	n, fits := sum(a, b)
	return held(n, fits, func() int { return edge(a < 0) })
}

// Sub does not add b with the other sign, for least has none. Only two numbers of different signs have a difference that is beyond, and that lies on a's side (0 is on the side of most).
func Sub(a, b int) int {
	n, fits := difference(a, b)
	return held(n, fits, func() int { return edge(a < 0) })
}

// Mul is held by both signs, for what went round has lost its own.
func Mul(a, b int) int {
	n, fits := product(a, b)
	return held(n, fits, func() int { return edge((a < 0) != (b < 0)) })
}

// Abs takes the number away from 0, held, for least without its sign is one above most.
func Abs(a int) int {
	if a < 0 {
		return Sub(0, a)
	}
	return a
}

// Clamp asks for low first: so it is told what counts where low is above high.
func Clamp(a, low, high int) int {
	if a < low {
		return low
	}
	if a > high {
		return high
	}
	return a
}

// sum holds a against the edge less b, which can't go round, as b leads back from that edge.
func sum(a, b int) (int, bool) {
	if b > 0 && a > most-b || b < 0 && a < least-b {
		return 0, false
	}
	return a + b, true
}

// difference holds a against the edge with b, which can't go round, as in sum.
func difference(a, b int) (int, bool) {
	if b < 0 && a > most+b || b > 0 && a < least+b {
		return 0, false
	}
	return a - b, true
}

// product divides back what it multiplied, which shows every product that went round but one: least by -1 goes round in the division too.
func product(a, b int) (int, bool) {
	if b == 0 {
		return 0, true
	}
	n := a * b
	if a == least && b == -1 || n/b != a {
		return 0, false
	}
	return n, true
}

func unlessOver(n int, fits bool) (int, api.Errno) {
	if !fits {
		return 0, api.ErrOver
	}
	return n, api.OK
}

// held asks which edge it is only where there is one, for of a number that fits nobody can tell.
func held(n int, fits bool, at func() int) int {
	if !fits {
		return at()
	}
	return n
}

func edge(below bool) int {
	if below {
		return least
	}
	return most
}
