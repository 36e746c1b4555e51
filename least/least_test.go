package least_test

import (
	"math"
	exact "math/big"
	"slices"
	"testing"

	"sawtooth/api"
	"sawtooth/least"
)

const (
	most   = math.MaxInt64
	fewest = math.MinInt64
	last   = api.MaxTime
)

// marks are so many pairs of At and N.
func marks(pairs ...int) []api.Mark {
	var l []api.Mark
	for i := 0; i < len(pairs); i += 2 {
		l = append(l, api.Mark{At: pairs[i], N: pairs[i+1]})
	}
	return l
}

// mayBe is as the chapter's words say it: first each At, then all that follow one another.
func mayBe(l []api.Mark) bool {
	for _, m := range l {
		if m.At < 0 || m.At > last {
			return false
		}
	}
	for i := 1; i < len(l); i++ {
		if l[i].At < l[i-1].At || l[i].N <= l[i-1].N {
			return false
		}
	}
	return true
}

// tooOld is whether t is below at less window, in true numbers.
func tooOld(t, window, at int) bool {
	edge := new(exact.Int).Sub(exact.NewInt(int64(at)), exact.NewInt(int64(window)))
	return exact.NewInt(int64(t)).Cmp(edge) < 0
}

// trueOf is P8.1 by its words.
func trueOf(l []api.Mark) (int, bool) {
	if !mayBe(l) || len(l) == 0 {
		return 0, false
	}
	return l[0].N, true
}

// truePut is P8.2 by its words, mark by mark.
func truePut(l []api.Mark, window, at, n int) ([]api.Mark, api.Errno) {
	if !mayBe(l) || at < 0 || at > last || window < 0 {
		return l, api.ErrTime
	}
	for _, m := range l {
		if at < m.At {
			return l, api.ErrBack
		}
	}
	var less, out []api.Mark
	for _, m := range l {
		if m.N < n {
			less = append(less, m)
		}
	}
	for _, m := range append(less, api.Mark{At: at, N: n}) {
		if !tooOld(m.At, window, at) {
			out = append(out, m)
		}
	}
	return out, api.OK
}

// trueSince is P8.3 by its words, mark by mark.
func trueSince(l []api.Mark, window, at int) (int, bool) {
	if window < 0 || !mayBe(l) {
		return 0, false
	}
	for _, m := range l {
		if !tooOld(m.At, window, at) && m.At <= at {
			return m.N, true
		}
	}
	return 0, false
}

// times are around both ends of what a time may be, around those of the lists below, and at the edges of 64 bits.
func times() []int {
	return []int{fewest, fewest + 1, -last, -1, 0, 1, 3, 4, 5, 6, 9, 10, 11, last - 1, last, last + 1, most - 1, most}
}

// windows are no window, and windows that end just below, at, and just above a mark.
func windows() []int {
	return []int{fewest, -last, -1, 0, 1, 4, 5, 6, 9, last - 1, last, last + 1, most - 1, most}
}

func numbers() []int {
	return []int{fewest, fewest + 1, -8, -7, -6, -1, 0, 1, 2, 3, 4, most - 1, most}
}

// edgeMarks have each At and each N at which something may turn.
func edgeMarks() []api.Mark {
	var l []api.Mark
	for _, at := range []int{fewest, -1, 0, 1, last - 1, last, last + 1, most} {
		for _, n := range []int{fewest, fewest + 1, -1, 0, 1, most - 1, most} {
			l = append(l, api.Mark{At: at, N: n})
		}
	}
	return l
}

// lists are of none, one and many marks, that may be, and that may not be.
func lists() [][]api.Mark {
	l := [][]api.Mark{
		nil,
		{},
		marks(0, 0),
		marks(5, -7),
		marks(5, fewest),
		marks(last, most),
		marks(last-1, 3),
		marks(0, 1, 0, 2),
		marks(4, -7, 4, 0, 4, 3),
		marks(4, fewest, 5, most),
		marks(4, -7, 5, 2),
		marks(0, fewest, 0, fewest+1, 5, -1, 5, 0, 5, 1, 10, most-1, 10, most),
		marks(0, -7, 1, 0, 4, 1, 5, 2, 9, 3),
		marks(3, -7, 5, 1, last, 3),
		marks(0, 1, last, 2),
		marks(-1, 0),
		marks(last+1, 0),
		marks(fewest, fewest),
		marks(most, most),
		marks(0, 1, 5, 1),
		marks(0, 2, 5, 1),
		marks(5, 1, 4, 2),
		marks(5, most, 5, fewest),
		marks(0, 0, 5, 1, 4, 2),
		marks(0, 0, 4, 1, 5, 0),
		marks(-1, 0, 4, 1, 5, 2),
		marks(0, 0, 4, 1, last+1, 2),
		marks(0, 0, fewest, 1, 5, 2),
	}
	for _, m := range edgeMarks() {
		l = append(l, []api.Mark{m})
	}
	return l
}

// roomy is l with room behind it, that holds marks of its own, and the whole of that.
func roomy(l []api.Mark) (handed, whole []api.Mark) {
	whole = append(slices.Clone(l), marks(7, 70, 8, 80, 9, 90)...)
	return whole[:len(l)], whole
}

// P8.1: none may be, one at a time, and more whose times do not go back, and whose numbers grow.
func TestCheck(t *testing.T) {
	for _, c := range []struct {
		l    []api.Mark
		want bool
	}{
		{nil, true},
		{marks(), true},
		{[]api.Mark{}, true},
		{marks(0, 0), true},
		{marks(-1, 0), false},
		{marks(1, 0), true},
		{marks(last-1, 0), true},
		{marks(last, 0), true},
		{marks(last+1, 0), false},
		{marks(most, 0), false},
		{marks(fewest, 0), false},
		{marks(5, most), true},
		{marks(5, fewest), true},
		{marks(5, 1, 5, 2), true},
		{marks(5, 1, 6, 2), true},
		{marks(5, 1, 4, 2), false},
		{marks(5, 2, 5, 2), false},
		{marks(5, 2, 6, 2), false},
		{marks(5, 2, 6, 1), false},
		{marks(5, 2, 4, 1), false},
		{marks(0, fewest, last, most), true},
		{marks(0, most, last, fewest), false},
		{marks(0, most-1, 0, most), true},
		{marks(0, most, 0, most), false},
		{marks(0, fewest, 0, fewest+1), true},
		{marks(0, fewest, 0, fewest), false},
		{marks(0, fewest+1, 0, fewest), false},
		{marks(last, 1, 0, 2), false},
		{marks(last, 1, last+1, 2), false},
		{marks(-1, 1, 0, 2), false},
		{marks(0, 1, 2, 3, 4, 5, 6, 7), true},
		{marks(0, 1, 2, 3, 4, 5, 3, 7), false},
		{marks(0, 1, 2, 3, 4, 5, 6, 5), false},
		{marks(0, 1, 2, 0, 4, 5, 6, 7), false},
		{marks(3, 1, 2, 3, 4, 5, 6, 7), false},
		{marks(0, 1, 2, 3, last+1, 5, last+2, 7), false},
	} {
		if is := least.Check(c.l); is != c.want {
			t.Errorf("Check(%v): %v", c.l, is)
		}
	}
}

// P8.1: two and three marks at all edges, beside each other.
func TestCheckAtTheEdges(t *testing.T) {
	edges := edgeMarks()
	for _, a := range edges {
		for _, b := range edges {
			for _, l := range [][]api.Mark{{a, b}, {a, b, {At: last, N: most}}, {{At: 0, N: fewest}, a, b}} {
				if is := least.Check(l); is != mayBe(l) {
					t.Fatalf("Check(%v): %v", l, is)
				}
			}
		}
	}
}

// P8.1: one mark that may not be is found wherever it is in a long list.
func TestCheckOfMany(t *testing.T) {
	l := make([]api.Mark, 3000)
	for i := range l {
		l[i] = api.Mark{At: i / 2, N: 2 * i}
	}
	if !least.Check(l) {
		t.Errorf("a long list may not be")
	}
	for i := range l {
		whole := l[i]
		for _, m := range []api.Mark{{At: -1, N: whole.N}, {At: last + 1, N: whole.N}} {
			l[i] = m
			if least.Check(l) {
				t.Fatalf("Check, with %v at %d", m, i)
			}
		}
		if l[i] = whole; i > 0 {
			l[i].N = l[i-1].N
			if least.Check(l) {
				t.Fatalf("Check, with the number of %d at %d", i-1, i)
			}
		}
		l[i] = whole
	}
}

// P8.1: the number of the first mark; none without one, and none of marks that may not be.
func TestOf(t *testing.T) {
	for _, c := range []struct {
		l    []api.Mark
		n    int
		want bool
	}{
		{nil, 0, false},
		{[]api.Mark{}, 0, false},
		{marks(5, 3), 3, true},
		{marks(0, 0), 0, true},
		{marks(0, fewest), fewest, true},
		{marks(last, most), most, true},
		{marks(5, -3, 5, 3, 9, 4), -3, true},
		{marks(0, 1, last, 2), 1, true},
		{marks(-1, 3), 0, false},
		{marks(last+1, 3), 0, false},
		{marks(5, 3, 5, 3), 0, false},
		{marks(5, 3, 6, 2), 0, false},
		{marks(5, 3, 4, 4), 0, false},
		{marks(5, 3, 6, 4, last+1, 5), 0, false},
	} {
		if n, is := least.Of(c.l); n != c.n || is != c.want {
			t.Errorf("Of(%v): %d, %v", c.l, n, is)
		}
	}
	for _, l := range lists() {
		n, is := least.Of(l)
		if want, has := trueOf(l); n != want || is != has {
			t.Errorf("Of(%v): %d, %v", l, n, is)
		}
	}
}

// P8.2: what is not less goes, then what is too old; the new mark is always there.
func TestPut(t *testing.T) {
	some := marks(0, -7, 1, 0, 4, 1, 5, 2, 9, 3)
	for _, c := range []struct {
		l             []api.Mark
		window, at, n int
		want          []api.Mark
	}{
		{nil, 0, 0, 0, marks(0, 0)},
		{[]api.Mark{}, most, last, most, marks(last, most)},
		{nil, 1, 1, fewest, marks(1, fewest)},
		{some, 100, 9, 4, marks(0, -7, 1, 0, 4, 1, 5, 2, 9, 3, 9, 4)},
		{some, 100, 10, 4, marks(0, -7, 1, 0, 4, 1, 5, 2, 9, 3, 10, 4)},
		{some, 100, 10, most, marks(0, -7, 1, 0, 4, 1, 5, 2, 9, 3, 10, most)},
		{some, 100, 10, 3, marks(0, -7, 1, 0, 4, 1, 5, 2, 10, 3)},
		{some, 100, 10, 2, marks(0, -7, 1, 0, 4, 1, 10, 2)},
		{some, 100, 10, 1, marks(0, -7, 1, 0, 10, 1)},
		{some, 100, 10, -6, marks(0, -7, 10, -6)},
		{some, 100, 10, -7, marks(10, -7)},
		{some, 100, 10, -8, marks(10, -8)},
		{some, 100, 10, fewest, marks(10, fewest)},
		{some, most, last, 4, marks(0, -7, 1, 0, 4, 1, 5, 2, 9, 3, last, 4)},
		{some, last, last, 4, marks(0, -7, 1, 0, 4, 1, 5, 2, 9, 3, last, 4)},
		{some, last - 1, last, 4, marks(1, 0, 4, 1, 5, 2, 9, 3, last, 4)},
		{some, 10, 10, 4, marks(0, -7, 1, 0, 4, 1, 5, 2, 9, 3, 10, 4)},
		{some, 9, 10, 4, marks(1, 0, 4, 1, 5, 2, 9, 3, 10, 4)},
		{some, 8, 10, 4, marks(4, 1, 5, 2, 9, 3, 10, 4)},
		{some, 6, 10, 4, marks(4, 1, 5, 2, 9, 3, 10, 4)},
		{some, 5, 10, 4, marks(5, 2, 9, 3, 10, 4)},
		{some, 4, 10, 4, marks(9, 3, 10, 4)},
		{some, 1, 10, 4, marks(9, 3, 10, 4)},
		{some, 0, 10, 4, marks(10, 4)},
		{some, 0, 9, 4, marks(9, 3, 9, 4)},
		{some, 0, 9, 3, marks(9, 3)},
		{some, 6, 10, 2, marks(4, 1, 10, 2)},
		{some, 5, 10, 2, marks(10, 2)},
		{some, 0, last, 2, marks(last, 2)},
		{marks(0, most), most, 0, most, marks(0, most)},
		{marks(0, most-1), most, 0, most, marks(0, most-1, 0, most)},
		{marks(0, fewest), most, 0, fewest, marks(0, fewest)},
		{marks(0, fewest), most, 0, fewest + 1, marks(0, fewest, 0, fewest+1)},
		{marks(0, most), most, 0, fewest, marks(0, fewest)},
		{marks(0, fewest), most, 0, most, marks(0, fewest, 0, most)},
		{marks(last, 1), 0, last, 2, marks(last, 1, last, 2)},
	} {
		if l, err := least.Put(c.l, c.window, c.at, c.n); err != api.OK || !slices.Equal(l, c.want) {
			t.Errorf("Put(%v, %d, %d, %d): %v, %d, not %v", c.l, c.window, c.at, c.n, l, err, c.want)
		}
	}
}

// P8.2, and what stands at the promises' head: ErrTime ahead of ErrBack, and l beside both.
func TestPutErrors(t *testing.T) {
	for _, c := range []struct {
		l          []api.Mark
		window, at int
		err        api.Errno
	}{
		{nil, 0, -1, api.ErrTime},
		{nil, 0, last + 1, api.ErrTime},
		{nil, 0, fewest, api.ErrTime},
		{nil, 0, most, api.ErrTime},
		{nil, -1, 0, api.ErrTime},
		{nil, fewest, 0, api.ErrTime},
		{nil, -1, -1, api.ErrTime},
		{marks(5, 1), 9, 4, api.ErrBack},
		{marks(5, 1), 0, 0, api.ErrBack},
		{marks(5, 1), most, 4, api.ErrBack},
		{marks(5, 1), -1, 4, api.ErrTime},
		{marks(5, 1), -1, 5, api.ErrTime},
		{marks(5, 1), 9, -1, api.ErrTime},
		{marks(5, 1), -1, -1, api.ErrTime},
		{marks(5, 1), 9, last + 1, api.ErrTime},
		{marks(0, 1, 3, 2, 5, 3), 9, 4, api.ErrBack},
		{marks(0, 1, 3, 2, 5, 3), 9, 2, api.ErrBack},
		{marks(0, 1, 3, 2, 5, 3), 9, 0, api.ErrBack},
		{marks(last, 1), 9, last - 1, api.ErrBack},
		{marks(last, 1), 9, last + 1, api.ErrTime},
		{marks(-1, 1), 9, 5, api.ErrTime},
		{marks(last+1, 1), 9, 5, api.ErrTime},
		{marks(last+1, 1), 9, last, api.ErrTime},
		{marks(most, 1), most, most, api.ErrTime},
		{marks(5, 1, 5, 1), 9, 5, api.ErrTime},
		{marks(5, 1, 6, 1), 9, 5, api.ErrTime},
		{marks(5, 2, 6, 1), 9, 5, api.ErrTime},
		{marks(5, 1, 4, 2), 9, 5, api.ErrTime},
		{marks(5, 1, 4, 2), 9, 3, api.ErrTime},
		{marks(5, 1, 4, 2), -1, 9, api.ErrTime},
		{marks(5, 1, 4, 2), 9, -1, api.ErrTime},
	} {
		for _, n := range numbers() {
			if l, err := least.Put(c.l, c.window, c.at, n); err != c.err || !slices.Equal(l, c.l) {
				t.Errorf("Put(%v, %d, %d, %d): %v, %d, not %d", c.l, c.window, c.at, n, l, err, c.err)
			}
		}
	}
}

// P8.2: a time just below, at, and just above that of the last mark.
func TestPutAroundTheLastMark(t *testing.T) {
	for _, before := range []int{1, 5, api.Second, last - 1} {
		l := marks(0, 1, before, 2)
		for by, want := range map[int]api.Errno{-1: api.ErrBack, 0: api.OK, 1: api.OK} {
			out, err := least.Put(l, most, before+by, 3)
			if err != want {
				t.Errorf("Put behind %d, %d later: %d", before, by, err)
			}
			if err == api.OK && !slices.Equal(out, marks(0, 1, before, 2, before+by, 3)) {
				t.Errorf("Put behind %d, %d later: %v", before, by, out)
			}
		}
	}
}

// P8.2: all lists, windows, times and numbers beside each other, as the words say it; what is answered may be, if what was handed in may be.
func TestPutAsTheWords(t *testing.T) {
	for _, l := range lists() {
		for _, window := range windows() {
			for _, at := range times() {
				for _, n := range numbers() {
					out, err := least.Put(l, window, at, n)
					want, wrong := truePut(l, window, at, n)
					if err != wrong || !slices.Equal(out, want) {
						t.Fatalf("Put(%v, %d, %d, %d): %v, %d, not %v, %d", l, window, at, n, out, err, want, wrong)
					}
					if least.Check(out) != mayBe(l) {
						t.Fatalf("Put(%v, %d, %d, %d): %v: %v", l, window, at, n, out, !mayBe(l))
					}
				}
			}
		}
	}
}

// P8.2, R3: what is handed in stays, its spare room too, whether it is taken or refused.
func TestWhatIsHandedInStays(t *testing.T) {
	for _, l := range lists() {
		handed, whole := roomy(l)
		before := slices.Clone(whole)
		for _, window := range windows() {
			for _, at := range times() {
				for _, n := range numbers() {
					least.Put(handed, window, at, n)
				}
				least.Since(handed, window, at)
			}
		}
		least.Check(handed)
		least.Of(handed)
		if !slices.Equal(whole, before) {
			t.Errorf("handed in: %v, not %v", whole, before)
		}
	}
}

// P8.2, R3: whoever writes over an answer, and its spare room, writes neither over what was handed in nor over another answer.
func TestAnswersHaveTheirOwnMemory(t *testing.T) {
	scrawl := func(l []api.Mark) {
		for i := range l[:cap(l)] {
			l[:cap(l)][i] = api.Mark{At: -3, N: -3}
		}
	}
	for _, l := range lists() {
		for _, c := range []struct{ window, at, n int }{
			{most, last, most}, {most, last, 1}, {most, last, fewest}, {5, 10, most}, {5, 10, 1}, {0, 9, 3}, {9, 3, 1}, {-1, 10, 4}, {9, -1, 4}, {9, last + 1, 4},
		} {
			handed, whole := roomy(l)
			before := slices.Clone(whole)
			one, _ := least.Put(handed, c.window, c.at, c.n)
			two, _ := least.Put(handed, c.window, c.at, c.n)
			want := slices.Clone(two)
			scrawl(one)
			if !slices.Equal(whole, before) || !slices.Equal(two, want) {
				t.Fatalf("Put(%v, %v): handed in %v, the other answer %v", l, c, whole, two)
			}
			scrawl(whole)
			if !slices.Equal(two, want) {
				t.Fatalf("Put(%v, %v): %v, once what was handed in is written over", l, c, two)
			}
		}
	}
}

// P8.2, R3: two answers that go on from one list, and lists that go on from one answer, are apart.
func TestPutsBesideEachOther(t *testing.T) {
	handed, _ := roomy(marks(1, 1, 2, 2))
	one, _ := least.Put(handed, 100, 3, 3)
	two, _ := least.Put(handed, 100, 4, 9)
	three, _ := least.Put(one, 100, 5, 5)
	four, _ := least.Put(one, 100, 6, 6)
	for _, c := range []struct{ l, want []api.Mark }{
		{handed, marks(1, 1, 2, 2)},
		{one, marks(1, 1, 2, 2, 3, 3)},
		{two, marks(1, 1, 2, 2, 4, 9)},
		{three, marks(1, 1, 2, 2, 3, 3, 5, 5)},
		{four, marks(1, 1, 2, 2, 3, 3, 6, 6)},
	} {
		if !slices.Equal(c.l, c.want) {
			t.Errorf("%v, not %v", c.l, c.want)
		}
	}
}

// P8.3: the first mark that is neither too old nor too late.
func TestSince(t *testing.T) {
	some := marks(0, -7, 1, 0, 4, 1, 5, 2, 9, 3)
	for _, c := range []struct {
		l          []api.Mark
		window, at int
		n          int
		want       bool
	}{
		{nil, 0, 0, 0, false},
		{[]api.Mark{}, most, last, 0, false},
		{marks(5, 3), 0, 4, 0, false},
		{marks(5, 3), 0, 5, 3, true},
		{marks(5, 3), 0, 6, 0, false},
		{marks(5, 3), 1, 6, 3, true},
		{marks(5, 3), 1, 7, 0, false},
		{marks(5, 3), 2, 7, 3, true},
		{marks(5, 3), most, 4, 0, false},
		{marks(5, 3), most, 5, 3, true},
		{marks(5, 3), most, most, 3, true},
		{marks(5, 3), most - 5, most, 3, true},
		{marks(5, 3), most - 6, most, 0, false},
		{marks(5, 3), -1, 5, 0, false},
		{marks(5, 3), -1, 4, 0, false},
		{marks(5, 3), fewest, 5, 0, false},
		{marks(5, 3), fewest, most, 0, false},
		{marks(5, 3), most, fewest, 0, false},
		{marks(5, 3), most, -1, 0, false},
		{marks(5, 3), 6, -1, 0, false},
		{marks(0, 3), most, -1, 0, false},
		{marks(0, 3), most, fewest, 0, false},
		{marks(0, 3), 0, 0, 3, true},
		{marks(last, 3), 0, last, 3, true},
		{marks(last, 3), 0, last + 1, 0, false},
		{marks(last, 3), 1, last + 1, 3, true},
		{marks(last, 3), last, most, 0, false},
		{marks(5, fewest), 0, 5, fewest, true},
		{marks(5, most), 0, 5, most, true},
		{marks(5, 0), 0, 5, 0, true},
		{some, 0, 0, -7, true},
		{some, 1, 1, -7, true},
		{some, 0, 1, 0, true},
		{some, 0, 2, 0, false},
		{some, 0, 3, 0, false},
		{some, 1, 3, 0, false},
		{some, 2, 3, 0, true},
		{some, 3, 3, -7, true},
		{some, 4, 9, 2, true},
		{some, 5, 9, 1, true},
		{some, 3, 9, 3, true},
		{some, 3, 8, 2, true},
		{some, 2, 8, 0, false},
		{some, 8, 9, 0, true},
		{some, 9, 9, -7, true},
		{some, most, 9, -7, true},
		{some, 1, last, 0, false},
		{some, last, last, -7, true},
		{some, last - 1, last, 0, true},
		{some, last - 9, last, 3, true},
		{some, last - 10, last, 0, false},
		{marks(5, 1, 5, 2, 6, 3), 0, 5, 1, true},
		{marks(5, 1, 5, 2, 6, 3), 0, 6, 3, true},
		{marks(-1, 1), most, 5, 0, false},
		{marks(-1, 1), 5, -1, 0, false},
		{marks(last+1, 1), 0, last + 1, 0, false},
		{marks(5, 1, 5, 1), 0, 5, 0, false},
		{marks(5, 2, 6, 1), 0, 6, 0, false},
		{marks(5, 1, 4, 2), 9, 9, 0, false},
		{marks(5, 1, 6, 2, last+1, 3), 9, 9, 0, false},
	} {
		if n, is := least.Since(c.l, c.window, c.at); n != c.n || is != c.want {
			t.Errorf("Since(%v, %d, %d): %d, %v, not %d, %v", c.l, c.window, c.at, n, is, c.n, c.want)
		}
	}
}

// P8.3: all lists, windows and times beside each other, as the words say it.
func TestSinceAsTheWords(t *testing.T) {
	for _, l := range lists() {
		for _, window := range windows() {
			for _, at := range times() {
				n, is := least.Since(l, window, at)
				if want, has := trueSince(l, window, at); n != want || is != has {
					t.Fatalf("Since(%v, %d, %d): %d, %v, not %d, %v", l, window, at, n, is, want, has)
				}
			}
		}
	}
}

// The chapter's example.
func TestExample(t *testing.T) {
	var l []api.Mark
	for _, m := range marks(1, 5, 2, 3, 9, 7) {
		var err api.Errno
		if l, err = least.Put(l, 5, m.At, m.N); err != api.OK {
			t.Fatalf("Put at %d: %d", m.At, err)
		}
	}
	if n, is := least.Of(l); n != 7 || !is {
		t.Errorf("Of: %d, %v", n, is)
	}
	if !slices.Equal(l, marks(9, 7)) {
		t.Errorf("%v", l)
	}
}

// row is what was put in a row of Puts of one window, and the marks behind it.
type row struct {
	window   int
	all, now []api.Mark
}

// put holds Of behind one more Put against all numbers that were put in that time.
func (r *row) put(t *testing.T, at, n int) {
	t.Helper()
	now, err := least.Put(r.now, r.window, at, n)
	if err != api.OK {
		t.Fatalf("window %d, behind %v: Put at %d: %d", r.window, r.all, at, err)
	}
	r.now, r.all = now, append(r.all, api.Mark{At: at, N: n})
	want := n
	for _, m := range r.all {
		if !tooOld(m.At, r.window, at) {
			want = min(want, m.N)
		}
	}
	if n, is := least.Of(now); n != want || !is {
		t.Fatalf("window %d, behind %v: %d, %v, not %d", r.window, r.all, n, is, want)
	}
	if n, is := least.Since(now, r.window, at); n != want || !is {
		t.Fatalf("window %d, behind %v: Since %d, %v, not %d", r.window, r.all, n, is, want)
	}
}

// P8.4: all short rows of Puts.
func TestLeastBehindShortRows(t *testing.T) {
	const steps, gaps, kinds = 5, 3, 3
	for window := range 6 {
		rows := 1
		for range steps {
			rows *= gaps * kinds
		}
		for which := range rows {
			r, at := row{window: window}, 0
			for range steps {
				at += which % gaps
				which /= gaps
				r.put(t, at, which%kinds)
				which /= kinds
			}
		}
	}
}

// stirred is a row of numbers that look like no order, and are the same each time.
func stirred(seed uint64) func(below int) int {
	return func(below int) int {
		seed = seed*6364136223846793005 + 1442695040888963407
		return int(seed>>33) % below
	}
}

// P8.4: long rows of Puts, whose numbers rise, fall, or do neither.
func TestLeastBehindLongRows(t *testing.T) {
	for _, window := range []int{0, 1, 7, 50, 400, last, most} {
		for kind := range 4 {
			next := stirred(uint64(kind))
			r, at := row{window: window}, 0
			for i := range 400 {
				at += next(5)
				r.put(t, at, []int{next(1000), next(3), i, -i}[kind])
			}
		}
	}
}

// P8.4: times and windows as great as they may be, and numbers at both edges of 64 bits.
func TestLeastAtTheEdges(t *testing.T) {
	for _, window := range []int{0, 1, api.Window, last - 1, last, last + 1, most} {
		r := row{window: window}
		for _, at := range []int{0, 1, api.Window - 1, api.Window, api.Window + 1, last - api.Window, last - 1, last} {
			for _, n := range []int{most, 0, most - 1, 1, -1, fewest, fewest, fewest + 1, most} {
				r.put(t, at, n)
			}
		}
		r = row{window: window}
		for _, at := range []int{0, 1, 2, last - 1, last} {
			for _, n := range numbers() {
				r.put(t, at, n)
			}
		}
	}
}

// P8.4, and R2: Puts that are refused count for nothing.
func TestRefusedPutsCountForNothing(t *testing.T) {
	next := stirred(9)
	r, at := row{window: 20}, 10
	for range 300 {
		at += next(6)
		r.put(t, at, next(100))
		before := slices.Clone(r.now)
		for _, c := range []struct {
			window, at int
			err        api.Errno
		}{{20, at - 1, api.ErrBack}, {20, -1, api.ErrTime}, {20, last + 1, api.ErrTime}, {-1, at, api.ErrTime}} {
			l, err := least.Put(r.now, c.window, c.at, fewest)
			if err != c.err || !slices.Equal(l, before) {
				t.Fatalf("Put(%v, %d, %d): %v, %d", before, c.window, c.at, l, err)
			}
			r.now = l
		}
	}
}
