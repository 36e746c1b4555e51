package run_test

import (
	"slices"
	"strings"
	"testing"

	"sawtooth/api"
	"sawtooth/run"
)

// digits are numbers with their bytes, worked out beforehand: the chapter's examples, each place where one digit more is needed, on both sides of it and of 0, and both edges of 64 bits.
func digits() []struct {
	n int
	b string
} {
	return []struct {
		n int
		b string
	}{
		{0, "\x00"},
		{-1, "\x01"},
		{1, "\x02"},
		{-2, "\x03"},
		{2, "\x04"},
		{63, "\x7e"},
		{-64, "\x7f"},
		{64, "\x80\x01"},
		{-65, "\x81\x01"},
		{65, "\x82\x01"},
		{8191, "\xfe\x7f"},
		{-8192, "\xff\x7f"},
		{8192, "\x80\x80\x01"},
		{-8193, "\x81\x80\x01"},
		{1048575, "\xfe\xff\x7f"},
		{-1048576, "\xff\xff\x7f"},
		{1048576, "\x80\x80\x80\x01"},
		{-1048577, "\x81\x80\x80\x01"},
		{134217727, "\xfe\xff\xff\x7f"},
		{-134217728, "\xff\xff\xff\x7f"},
		{134217728, "\x80\x80\x80\x80\x01"},
		{-134217729, "\x81\x80\x80\x80\x01"},
		{17179869183, "\xfe\xff\xff\xff\x7f"},
		{-17179869184, "\xff\xff\xff\xff\x7f"},
		{17179869184, "\x80\x80\x80\x80\x80\x01"},
		{-17179869185, "\x81\x80\x80\x80\x80\x01"},
		{2199023255551, "\xfe\xff\xff\xff\xff\x7f"},
		{-2199023255552, "\xff\xff\xff\xff\xff\x7f"},
		{2199023255552, "\x80\x80\x80\x80\x80\x80\x01"},
		{-2199023255553, "\x81\x80\x80\x80\x80\x80\x01"},
		{281474976710655, "\xfe\xff\xff\xff\xff\xff\x7f"},
		{-281474976710656, "\xff\xff\xff\xff\xff\xff\x7f"},
		{281474976710656, "\x80\x80\x80\x80\x80\x80\x80\x01"},
		{-281474976710657, "\x81\x80\x80\x80\x80\x80\x80\x01"},
		{36028797018963967, "\xfe\xff\xff\xff\xff\xff\xff\x7f"},
		{-36028797018963968, "\xff\xff\xff\xff\xff\xff\xff\x7f"},
		{36028797018963968, "\x80\x80\x80\x80\x80\x80\x80\x80\x01"},
		{-36028797018963969, "\x81\x80\x80\x80\x80\x80\x80\x80\x01"},
		{4611686018427387903, "\xfe\xff\xff\xff\xff\xff\xff\xff\x7f"},
		{-4611686018427387904, "\xff\xff\xff\xff\xff\xff\xff\xff\x7f"},
		{4611686018427387904, "\x80\x80\x80\x80\x80\x80\x80\x80\x80\x01"},
		{-4611686018427387905, "\x81\x80\x80\x80\x80\x80\x80\x80\x80\x01"},
		{9223372036854775806, "\xfc\xff\xff\xff\xff\xff\xff\xff\xff\x01"},
		{9223372036854775807, "\xfe\xff\xff\xff\xff\xff\xff\xff\xff\x01"},
		{-9223372036854775807, "\xfd\xff\xff\xff\xff\xff\xff\xff\xff\x01"},
		{-9223372036854775808, "\xff\xff\xff\xff\xff\xff\xff\xff\xff\x01"},
	}
}

// behinds are bytes that stand behind others: no number's bytes, one's, more than one's, and many.
func behinds() []string {
	return []string{"", "\x00", "\x01", "\x7f", "\x80", "\xff", "\x80\x00", "\x80\x01", "\x00\x80", "\xff\xff\xff\xff\xff\xff\xff\xff\xff\xff\xff", "text", strings.Repeat("\x80", 1000)}
}

// P24.1: the bytes of one number, and what is taken of them, with nothing and with other bytes behind.
func TestNumbers(t *testing.T) {
	for _, d := range digits() {
		if got := holdPut(t, "", d.n); got != d.b {
			t.Errorf("Put of %d: %q, not %q", d.n, got, d.b)
		}
		for _, behind := range behinds() {
			if n, rest, err := holdTake(t, d.b+behind); n != d.n || rest != behind || err != api.OK {
				t.Errorf("Take(%q): %d, %q, %v, not %d, %q", d.b+behind, n, rest, err, d.n, behind)
			}
		}
	}
}

// P24.1: all numbers near 0, and near each power of two, with either sign; and some of any size.
func TestAllSizes(t *testing.T) {
	var l []int
	for n := range 20000 {
		l = append(l, n, -n)
	}
	for i := range 63 {
		l = append(l, near(1<<i, -1<<i)...)
	}
	l = append(l, near(most, fewest)...)
	next := stirred(1)
	for range 20000 {
		l = append(l, anyNumber(next))
	}
	for _, n := range l {
		b := holdPut(t, "", n)
		if got, rest, err := holdTake(t, b); got != n || rest != "" || err != api.OK {
			t.Fatalf("Take(%q): %d, %q, %v, not %d", b, got, rest, err, n)
		}
		for _, d := range []byte(b[:len(b)-1]) {
			if d < 128 {
				t.Fatalf("%q of %d", b, n)
			}
		}
	}
}

// P24.1: of no numbers, of one and of many, each behind no bytes and behind some, whatever these are.
func TestPut(t *testing.T) {
	for _, b := range behinds() {
		if got := run.Put(b); got != b {
			t.Errorf("Put(%q): %q", b, got)
		}
		holdPut(t, b)
		var all []int
		want := b
		for _, d := range digits() {
			if got := holdPut(t, b, d.n); got != b+d.b {
				t.Errorf("Put(%q, %d): %q", b, d.n, got)
			}
			all, want = append(all, d.n), want+d.b
			if got := holdPut(t, b, all...); got != want {
				t.Errorf("Put(%q, %v): %q, not %q", b, all, got, want)
			}
		}
	}
	if got := run.Put("\x80", 0, -1, 1, 64, 0); got != "\x80\x00\x01\x02\x80\x01\x00" {
		t.Errorf("%q", got)
	}
}

// P24.1: a list that is spread is neither changed nor kept, nor what stands in its spare room; nor does a text hold on to it.
func TestPutSpread(t *testing.T) {
	l := make([]int, 3, 5)
	copy(l[:5], []int{300, -300, 0, 77, 78})
	got := run.Put("a", l...)
	if got != "a\xd8\x04\xd7\x04\x00" || !slices.Equal(l[:5], []int{300, -300, 0, 77, 78}) {
		t.Errorf("%q, %v", got, l[:5])
	}
	clear(l[:5])
	if got != "a\xd8\x04\xd7\x04\x00" {
		t.Errorf("%q, once the list was cleared", got)
	}
	for _, none := range [][]int{nil, {}, l[:0]} {
		if got := run.Put("a", none...); got != "a" {
			t.Errorf("Put of none: %q", got)
		}
	}
	many := slices.Repeat([]int{64, -1}, 100000)
	if got := run.Put("", many...); got != strings.Repeat("\x80\x01\x01", 100000) {
		t.Errorf("%d bytes of many", len(got))
	}
}

// P24.1: bytes that begin with no number's bytes: ErrScript, and 0 and nothing beside it.
func refuseTake(t *testing.T, b string) {
	t.Helper()
	holdTake(t, b)
	if n, rest, err := run.Take(b); n != 0 || rest != "" || err != api.ErrScript {
		t.Errorf("Take(%.100q): %d, %q, %v", b, n, rest, err)
	}
}

// P24.1: no bytes, and each beginning of a number's bytes that is not all of them.
func TestTakeShort(t *testing.T) {
	refuseTake(t, "")
	for _, d := range digits() {
		for k := range len(d.b) {
			refuseTake(t, d.b[:k])
		}
	}
}

// P24.1: digits that need not be there: a last one, or more, of 0 behind each number's own, whatever is behind it.
func TestTakeLong(t *testing.T) {
	for _, d := range digits() {
		last := len(d.b) - 1
		for zeros := range 12 {
			b := d.b[:last] + string([]byte{d.b[last] + 128}) + strings.Repeat("\x80", zeros) + "\x00"
			for _, behind := range behinds() {
				refuseTake(t, b+behind)
			}
		}
	}
}

// P24.1: nine digits with more behind: the tenth may be 1 alone, and be the last one.
func TestTakeTen(t *testing.T) {
	for _, nine := range []string{strings.Repeat("\x80", 9), strings.Repeat("\xff", 9), "\x80\xff\x80\xff\x80\xff\x80\xff\x80", "\x81\x80\x80\x80\x80\x80\x80\x80\x80", "\xfe\xff\xff\xff\xff\xff\xff\xff\xff"} {
		for tenth := range 256 {
			for _, behind := range behinds() {
				b := nine + string([]byte{byte(tenth)}) + behind
				if tenth != 1 {
					refuseTake(t, b)
					continue
				}
				if n, rest, err := holdTake(t, b); err != api.OK || rest != behind || spelt(n)+behind != b {
					t.Errorf("Take(%q): %d, %q, %v", b, n, rest, err)
				}
			}
		}
	}
}

// P24.1: many bytes that are all 128 or more, and such with a last digit at their end.
func TestTakeEndless(t *testing.T) {
	for _, digit := range []string{"\x80", "\x81", "\xfe", "\xff"} {
		for _, n := range []int{1, 2, 8, 9, 10, 11, 63, 64, 65, 100, 1000, 1000000} {
			b := strings.Repeat(digit, n)
			refuseTake(t, b)
			for _, last := range []string{"\x00", "\x01", "\x02", "\x7f"} {
				if n > 9 {
					refuseTake(t, b+last)
				} else {
					holdTake(t, b+last)
				}
			}
		}
	}
}

// P24.1: all texts of two bytes at most, and all of up to six of which each is at an edge.
func TestTakeAll(t *testing.T) {
	for a := range 256 {
		holdTake(t, string([]byte{byte(a)}))
		for b := range 256 {
			holdTake(t, string([]byte{byte(a), byte(b)}))
		}
	}
	for _, b := range texts("\x00\x01\x02\x7f\x80\xff", 6) {
		holdTake(t, b)
	}
}

// texts are all of n bytes at most of those of some.
func texts(some string, n int) []string {
	l := []string{""}
	for begin := 0; n > 0; n-- {
		end := len(l)
		for _, b := range l[begin:end] {
			for i := range len(some) {
				l = append(l, b+some[i:i+1])
			}
		}
		begin = end
	}
	return l
}
