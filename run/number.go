package run

// base is what digits are to; a byte that is not below it says that one more follows.
const base = 128

func put(b []byte, l ...int) []byte {
	for _, n := range l {
		u := unsigned(n)
		for u >= base {
			b = append(b, base+byte(u%base))
			u /= base
		}
		b = append(b, byte(u))
	}
	return b
}

// unsigned takes n apart bit by bit, as how far the least number is below 0 is none of 64 bits with a sign.
func unsigned(n int) uint64 {
	if n < 0 {
		return uint64(^n)<<1 + 1
	}
	return uint64(n) << 1
}

func signed(u uint64) int {
	half := int(u >> 1)
	if u%2 == 1 {
		return ^half
	}
	return half
}
