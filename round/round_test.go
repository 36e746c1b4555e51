package round_test

import (
	"math"
	exact "math/big"
	"slices"
	"testing"

	"sawtooth/api"
	"sawtooth/round"
)

const (
	most   = math.MaxInt64
	fewest = math.MinInt64
)

// fields are around 0, around what the lists below tell, around the halves of the edges, and both edges.
func fields() []int {
	return []int{fewest, fewest + 1, -1 << 62, -7, -2, -1, 0, 1, 2, 6, 7, 8, 1<<62 - 1, 1 << 62, most - 2, most - 1, most}
}

func rounds() []api.Round {
	var l []api.Round
	for _, id := range fields() {
		for _, end := range fields() {
			l = append(l, api.Round{ID: id, End: end})
		}
	}
	return l
}

// answer is all that Ack tells.
type answer struct {
	r    api.Round
	over bool
	err  api.Errno
}

func ack(r api.Round, told, sent int) answer {
	next, over, err := round.Ack(r, told, sent)
	return answer{next, over, err}
}

// mayBe is as the chapter's words say it.
func mayBe(r api.Round) bool {
	for _, n := range [2]int{r.ID, r.End} {
		if exact.NewInt(int64(n)).Sign() < 0 {
			return false
		}
	}
	return true
}

// trueAck is P9.2 by its words, one behind the other, in true numbers.
func trueAck(r api.Round, told, sent int) answer {
	if !mayBe(r) {
		return answer{r, false, api.ErrField}
	}
	whole := func(n int) *exact.Int { return exact.NewInt(int64(n)) }
	if whole(told).Sign() < 0 {
		return answer{r, false, api.ErrField}
	}
	if whole(sent).Cmp(whole(told)) < 0 {
		return answer{r, false, api.ErrField}
	}
	if whole(told).Cmp(whole(r.End)) < 0 {
		return answer{r, false, api.OK}
	}
	id := new(exact.Int).Add(whole(r.ID), whole(1))
	if !id.IsInt64() {
		return answer{r, false, api.ErrField}
	}
	return answer{api.Round{ID: int(id.Int64()), End: sent}, true, api.OK}
}

// trueCount is P9.3 by its words: it goes on behind an error with the round that there was.
func trueCount(told, sent []int) int {
	r, over := api.Round{}, 0
	for i := 0; i < len(told) && i < len(sent); i++ {
		a := trueAck(r, told[i], sent[i])
		if a.err != api.OK {
			continue
		}
		if a.over {
			over++
		}
		r = a.r
	}
	return over
}

// P9.1: ID and End at 0, beside it, and at both edges.
func TestCheck(t *testing.T) {
	for _, c := range []struct {
		id, end int
		want    bool
	}{
		{0, 0, true},
		{0, 1, true},
		{1, 0, true},
		{1, 1, true},
		{5, 3, true},
		{3, 5, true},
		{0, -1, false},
		{-1, 0, false},
		{-1, -1, false},
		{1, -1, false},
		{-1, 1, false},
		{most, most, true},
		{most, 0, true},
		{0, most, true},
		{most - 1, most - 1, true},
		{most, -1, false},
		{-1, most, false},
		{most, fewest, false},
		{fewest, most, false},
		{fewest, fewest, false},
		{fewest, 0, false},
		{0, fewest, false},
		{fewest + 1, fewest + 1, false},
	} {
		if is := round.Check(api.Round{ID: c.id, End: c.end}); is != c.want {
			t.Errorf("Check(%d, %d): %v", c.id, c.end, is)
		}
	}
	for _, r := range rounds() {
		if is := round.Check(r); is != mayBe(r) {
			t.Errorf("Check(%v): %v", r, is)
		}
	}
}

// P9.1: the round 0 ends at what was sent, and at 0, if that is below 0; it may always be.
func TestBegin(t *testing.T) {
	for _, c := range []struct{ sent, end int }{
		{0, 0},
		{1, 1},
		{-1, 0},
		{-2, 0},
		{10, 10},
		{-10, 0},
		{1 << 62, 1 << 62},
		{-1 << 62, 0},
		{most - 1, most - 1},
		{most, most},
		{fewest + 1, 0},
		{fewest, 0},
	} {
		if r := round.Begin(c.sent); r != (api.Round{ID: 0, End: c.end}) {
			t.Errorf("Begin(%d): %v", c.sent, r)
		}
	}
	for _, sent := range fields() {
		r := round.Begin(sent)
		if r.ID != 0 || r.End < 0 || sent >= 0 && r.End != sent || sent < 0 && r.End != 0 || !round.Check(r) {
			t.Errorf("Begin(%d): %v", sent, r)
		}
	}
}

// P9.2: told below, at and above where the round ends, and sent at and above told.
func TestAck(t *testing.T) {
	for _, c := range []struct {
		id, end, told, sent int
		toID, toEnd         int
		over                bool
	}{
		{0, 10, 0, 0, 0, 10, false},
		{0, 10, 0, 99, 0, 10, false},
		{0, 10, 5, 5, 0, 10, false},
		{0, 10, 5, 20, 0, 10, false},
		{0, 10, 9, 9, 0, 10, false},
		{0, 10, 9, 10, 0, 10, false},
		{0, 10, 9, 11, 0, 10, false},
		{0, 10, 10, 10, 1, 10, true},
		{0, 10, 10, 11, 1, 11, true},
		{0, 10, 10, 20, 1, 20, true},
		{0, 10, 11, 11, 1, 11, true},
		{0, 10, 11, 12, 1, 12, true},
		{0, 10, 11, most, 1, most, true},
		{0, 10, most, most, 1, most, true},
		{0, 0, 0, 0, 1, 0, true},
		{0, 0, 0, 1, 1, 1, true},
		{0, 0, 0, most, 1, most, true},
		{0, 1, 0, 0, 0, 1, false},
		{0, 1, 0, 1, 0, 1, false},
		{0, 1, 1, 1, 1, 1, true},
		{7, 10, 9, 30, 7, 10, false},
		{7, 10, 10, 30, 8, 30, true},
		{7, 10, 10, 10, 8, 10, true},
		{7, most, 0, 0, 7, most, false},
		{7, most, most - 1, most - 1, 7, most, false},
		{7, most, most - 1, most, 7, most, false},
		{7, most, most, most, 8, most, true},
		{7, most - 1, most - 2, most, 7, most - 1, false},
		{7, most - 1, most - 1, most - 1, 8, most - 1, true},
		{7, most - 1, most - 1, most, 8, most, true},
		{7, most - 1, most, most, 8, most, true},
		{most - 2, 10, 10, 12, most - 1, 12, true},
		{most - 1, 10, 9, 12, most - 1, 10, false},
		{most - 1, 10, 10, 12, most, 12, true},
		{most - 1, 10, 11, 12, most, 12, true},
		{most - 1, most, most, most, most, most, true},
		{most - 1, 0, 0, 0, most, 0, true},
		{most, 10, 0, 0, most, 10, false},
		{most, 10, 9, 9, most, 10, false},
		{most, 10, 9, most, most, 10, false},
		{most, most, most - 1, most, most, most, false},
		{most, 1, 0, 5, most, 1, false},
	} {
		want := answer{api.Round{ID: c.toID, End: c.toEnd}, c.over, api.OK}
		if a := ack(api.Round{ID: c.id, End: c.end}, c.told, c.sent); a != want {
			t.Errorf("Ack(%d, %d, %d, %d): %v, not %v", c.id, c.end, c.told, c.sent, a, want)
		}
	}
}

// P9.2: each error by itself, and beside others; r and false stand beside it.
func TestAckErrors(t *testing.T) {
	for _, c := range []struct{ id, end, told, sent int }{
		{-1, 0, 0, 0},
		{-1, 10, 5, 20},
		{-1, 10, 10, 20},
		{0, -1, 0, 0},
		{0, -1, 5, 20},
		{7, -1, 0, 20},
		{-1, -1, 10, 20},
		{fewest, 10, 10, 20},
		{0, fewest, 10, 20},
		{fewest, fewest, most, most},
		{most, -1, 10, 20},
		{-1, most, 10, 20},
		{0, 10, -1, 20},
		{0, 10, -1, 0},
		{0, 10, -1, -1},
		{0, 0, -1, 0},
		{0, 0, -1, -1},
		{0, 10, -2, -1},
		{0, 10, -1, -2},
		{0, 10, fewest, 20},
		{0, 0, fewest, fewest},
		{0, 10, fewest, most},
		{0, 10, 5, 4},
		{0, 10, 9, 8},
		{0, 10, 10, 9},
		{0, 10, 10, 5},
		{0, 10, 11, 10},
		{0, 10, 11, 0},
		{0, 10, 5, -1},
		{0, 10, 0, -1},
		{0, 0, 0, -1},
		{0, 0, 1, 0},
		{0, 10, 5, fewest},
		{0, 10, most, fewest},
		{0, 10, most, most - 1},
		{0, most, most, most - 1},
		{7, 10, 10, 9},
		{most, 10, 10, 10},
		{most, 10, 10, 20},
		{most, 10, 11, 20},
		{most, 0, 0, 0},
		{most, 0, 0, most},
		{most, most, most, most},
		{most, most - 1, most - 1, most},
		{most, 10, 5, 4},
		{most, 10, 10, 9},
		{most, 10, -1, 20},
		{most - 1, 10, 10, 9},
		{most - 1, 10, 5, 4},
		{most - 1, 10, -1, 20},
		{-1, -1, -1, -2},
	} {
		r := api.Round{ID: c.id, End: c.end}
		if a := ack(r, c.told, c.sent); a != (answer{r, false, api.ErrField}) {
			t.Errorf("Ack(%v, %d, %d): %v", r, c.told, c.sent, a)
		}
	}
}

// P9.2: told just below, at, and just above each End, and sent just below, at, and just above told.
func TestAckAroundTheEnd(t *testing.T) {
	for _, end := range []int{2, 10, 1 << 20, 1 << 62, most - 3} {
		for _, id := range []int{0, 1, 7, 1 << 62, most - 2, most - 1, most} {
			r := api.Round{ID: id, End: end}
			for by := -1; by <= 1; by++ {
				for more := -1; more <= 1; more++ {
					told, sent := end+by, end+by+more
					want := answer{r, false, api.OK}
					switch {
					case more < 0, by >= 0 && id == most:
						want.err = api.ErrField
					case by >= 0:
						want = answer{api.Round{ID: id + 1, End: sent}, true, api.OK}
					}
					if a := ack(r, told, sent); a != want {
						t.Errorf("Ack(%v, %d, %d): %v, not %v", r, told, sent, a, want)
					}
				}
			}
		}
	}
}

// P9.2: all rounds and numbers beside each other, as the words say it; what may be stays so.
func TestAckAsTheWords(t *testing.T) {
	for _, r := range rounds() {
		for _, told := range fields() {
			for _, sent := range fields() {
				a, want := ack(r, told, sent), trueAck(r, told, sent)
				if a != want {
					t.Fatalf("Ack(%v, %d, %d): %v, not %v", r, told, sent, a, want)
				}
				if round.Check(a.r) != mayBe(r) {
					t.Fatalf("Ack(%v, %d, %d): %v: %v", r, told, sent, a, !mayBe(r))
				}
			}
		}
	}
}

// P9.3: of none, of one and of many, of unlike lengths, and with errors anywhere.
func TestCount(t *testing.T) {
	for _, c := range []struct {
		told, sent []int
		want       int
	}{
		{nil, nil, 0},
		{nil, []int{}, 0},
		{[]int{}, nil, 0},
		{[]int{}, []int{}, 0},
		{nil, []int{1, 2}, 0},
		{[]int{1, 2}, nil, 0},
		{[]int{}, []int{5}, 0},
		{[]int{5}, []int{}, 0},
		{[]int{0}, []int{0}, 1},
		{[]int{0}, []int{10}, 1},
		{[]int{10}, []int{10}, 1},
		{[]int{most}, []int{most}, 1},
		{[]int{-1}, []int{0}, 0},
		{[]int{-1}, []int{-1}, 0},
		{[]int{0}, []int{-1}, 0},
		{[]int{1}, []int{0}, 0},
		{[]int{0, 0, 0}, []int{0, 0, 0}, 3},
		{[]int{0, 0, 0}, []int{1, 1, 1}, 1},
		{[]int{0, 5, 10}, []int{10, 20, 30}, 2},
		{[]int{0, 5, 9}, []int{10, 20, 30}, 1},
		{[]int{0, 5, 10, 29, 30}, []int{10, 20, 30, 40, 50}, 3},
		{[]int{0, 10, 20, 30}, []int{10, 20, 30, 40}, 4},
		{[]int{0, 10, 20, 30}, []int{10, 21, 31, 41}, 3},
		{[]int{0, 10, 20, 30}, []int{10, 20}, 2},
		{[]int{0, 10}, []int{10, 20, 30, 40}, 2},
		{[]int{0, 10}, []int{10, 20, -1}, 2},
		{[]int{0, 10, -1}, []int{10, 20}, 2},
		{[]int{5, 4, 3}, []int{5, 5, 5}, 1},
		{[]int{5, 4, 5}, []int{5, 5, 5}, 2},
		{[]int{-1, 0, 10, 20}, []int{10, 10, 20, 30}, 3},
		{[]int{1, 0, 10, 20}, []int{0, 10, 20, 30}, 3},
		{[]int{0, -1, 10, 20}, []int{10, 10, 20, 30}, 3},
		{[]int{0, 10, 15, 20}, []int{10, 20, 14, 30}, 3},
		{[]int{0, 10, 20, 20}, []int{10, 20, 19, 30}, 3},
		{[]int{0, 10, 20, 30}, []int{10, 20, 30, 29}, 3},
		{[]int{0, 10, 20, fewest}, []int{10, 20, 30, most}, 3},
		{[]int{-1, -1, -1}, []int{1, 2, 3}, 0},
		{[]int{0, most, most}, []int{most, most, most}, 3},
		{[]int{0, most - 1, most}, []int{most, most, most}, 2},
		{[]int{fewest, 0, most}, []int{most, most - 1, most}, 2},
	} {
		if n := round.Count(c.told, c.sent); n != c.want {
			t.Errorf("Count(%v, %v): %d, not %d", c.told, c.sent, n, c.want)
		}
	}
}

// pairs are so many pairs of told and sent; the number tells which of the choices each of them is.
func pairs(which, many int) (told, sent []int) {
	choices := [][2]int{{0, 0}, {0, 2}, {1, 1}, {1, 2}, {2, 2}, {2, 3}, {-1, 1}, {2, 1}}
	for range many {
		c := choices[which%len(choices)]
		told, sent = append(told, c[0]), append(sent, c[1])
		which /= len(choices)
	}
	return told, sent
}

// P9.3: all short lists, with each error at each place, and with one of both cut off.
func TestCountOfShortLists(t *testing.T) {
	for many := range 5 {
		for which := range 1 << (3 * many) {
			told, sent := pairs(which, many)
			for cut := range many + 1 {
				for _, c := range [][2][]int{{told, sent[:cut]}, {told[:cut], sent}} {
					if n, want := round.Count(c[0], c[1]), trueCount(c[0], c[1]); n != want {
						t.Fatalf("Count(%v, %v): %d, not %d", c[0], c[1], n, want)
					}
				}
			}
		}
	}
}

// P9.3: all that is told beside all that is sent, at the edges too.
func TestCountAtTheEdges(t *testing.T) {
	for _, a := range fields() {
		for _, b := range fields() {
			for _, c := range fields() {
				for _, d := range fields() {
					told, sent := []int{a, b, 2, most}, []int{c, d, 7, most}
					if n, want := round.Count(told, sent), trueCount(told, sent); n != want {
						t.Fatalf("Count(%v, %v): %d, not %d", told, sent, n, want)
					}
				}
			}
		}
	}
}

// stirred is a row of numbers that look like no order, and are the same each time.
func stirred(seed uint64) func(below int) int {
	return func(below int) int {
		seed = seed*6364136223846793005 + 1442695040888963407
		return int(seed>>33) % below
	}
}

// P9.3: long lists, with errors at their beginning, in their middle, and at their end.
func TestCountOfLongLists(t *testing.T) {
	for seed := range 30 {
		next := stirred(uint64(seed))
		var told, sent []int
		for i := range 2000 {
			told = append(told, 3*i-next(40))
			sent = append(sent, 3*i-20+next(100))
		}
		if n, want := round.Count(told, sent), trueCount(told, sent); n != want || n < 10 {
			t.Fatalf("Count of %d: %d, not %d", seed, n, want)
		}
		for _, cut := range []int{0, 1, 999, 1000, 1999} {
			if n, want := round.Count(told[:cut], sent), trueCount(told[:cut], sent); n != want {
				t.Fatalf("Count of %d told: %d, not %d", cut, n, want)
			}
			if n, want := round.Count(told, sent[:cut]), trueCount(told, sent[:cut]); n != want {
				t.Fatalf("Count of %d sent: %d, not %d", cut, n, want)
			}
		}
	}
	all := make([]int, 100000)
	for i := range all {
		all[i] = i
	}
	if n := round.Count(all, all); n != len(all) {
		t.Errorf("Count, each time over: %d", n)
	}
}

// P9.3, R3: what is handed in stays, its spare room too; and both may be one list.
func TestWhatIsHandedInStays(t *testing.T) {
	told := []int{0, 10, -1, 20, 7, 41, 42, 43}
	sent := []int{10, 20, 5, 30, 6, 51, 52, 53}
	wasTold, wasSent := slices.Clone(told), slices.Clone(sent)
	for _, c := range [][2]int{{5, 5}, {5, 3}, {3, 5}, {5, 0}, {0, 5}, {8, 8}} {
		round.Count(told[:c[0]], sent[:c[1]])
		if !slices.Equal(told, wasTold) || !slices.Equal(sent, wasSent) {
			t.Fatalf("Count of %v: %v, %v", c, told, sent)
		}
	}
	if n := round.Count(sent, sent); n != trueCount(wasSent, wasSent) || !slices.Equal(sent, wasSent) {
		t.Errorf("Count of one list twice: %d, %v", n, sent)
	}
}

// P9.3, R3 and R4: nothing is kept: a count is the same behind any others.
func TestCountsBesideEachOther(t *testing.T) {
	told, sent := []int{0, 5, 10}, []int{10, 20, 30}
	for _, c := range [][2][]int{{nil, nil}, {told, sent}, {{most}, {most}}, {{-1}, {0}}, {sent, told}} {
		round.Count(c[0], c[1])
		if n := round.Count(told, sent); n != 2 {
			t.Errorf("Count behind that of %v: %d", c, n)
		}
	}
}

// The chapter's example.
func TestExample(t *testing.T) {
	r, over, err := round.Ack(round.Begin(10), 5, 15)
	if r != (api.Round{ID: 0, End: 10}) || over || err != api.OK {
		t.Errorf("told 5 of 10: %v, %v, %d", r, over, err)
	}
	r, over, err = round.Ack(r, 10, 25)
	if r != (api.Round{ID: 1, End: 25}) || !over || err != api.OK {
		t.Errorf("told 10 of 10: %v, %v, %d", r, over, err)
	}
}

// row is a round, how often one was over, and what was sent when it began.
type row struct {
	now   api.Round
	began int
}

// ack holds one more Ack against P9.4: the ID is the same or one more, and the round ends at what was sent when it began.
func (r *row) ack(t *testing.T, told, sent int) {
	t.Helper()
	was := *r
	next, over, err := round.Ack(r.now, told, sent)
	r.now = next
	if over {
		r.began = sent
	}
	switch {
	case next.ID < was.now.ID:
		t.Fatalf("Ack(%v, %d, %d): the ID falls: %v", was.now, told, sent, next)
	case over != (next.ID != was.now.ID) || over && next.ID-was.now.ID != 1:
		t.Fatalf("Ack(%v, %d, %d): %v, %v", was.now, told, sent, next, over)
	case over && (err != api.OK || told < was.began):
		t.Fatalf("Ack(%v, %d, %d): over, %d, but %d was sent when it began", was.now, told, sent, err, was.began)
	case next.End != r.began:
		t.Fatalf("Ack(%v, %d, %d): %v, but %d was sent when it began", was.now, told, sent, next, r.began)
	}
	if err == api.OK && !over && told >= was.began {
		t.Fatalf("Ack(%v, %d, %d): not over, but only %d was sent when it began", was.now, told, sent, was.began)
	}
}

// P9.4: all short rows of Acks, those that are refused among them.
func TestShortRows(t *testing.T) {
	const many = 5
	for begin := range 4 {
		for which := range 1 << (3 * many) {
			told, sent := pairs(which, many)
			r := row{round.Begin(begin), begin}
			for i := range many {
				r.ack(t, told[i], sent[i])
			}
		}
	}
}

// P9.4: long rows of what is sent and told of, as a connection has them, and some that is refused.
func TestLongRows(t *testing.T) {
	for seed := range 30 {
		next := stirred(uint64(seed))
		told, sent := 0, next(50)
		r := row{round.Begin(sent), sent}
		for range 3000 {
			sent += next(30)
			told = min(told+next(30), sent)
			r.ack(t, told, sent)
			r.ack(t, -1-next(9), sent)
			r.ack(t, sent+1, sent)
		}
		if r.now.ID < 100 {
			t.Errorf("of %d only %d rounds", seed, r.now.ID)
		}
	}
}

// P9.4: long rows in which told and sent rise and fall.
func TestLongRowsInNoOrder(t *testing.T) {
	for seed := range 30 {
		next := stirred(uint64(seed))
		r := row{round.Begin(100), 100}
		for range 3000 {
			r.ack(t, next(300)-20, next(300)-20)
		}
	}
}

// P9.4: rows of numbers at both edges, from IDs at both ends: the last one stays, however often it would be over.
func TestRowsAtTheEdges(t *testing.T) {
	for _, id := range []int{0, 1 << 62, most - 3, most - 1, most} {
		for _, end := range []int{0, 1, most - 1, most} {
			r := row{api.Round{ID: id, End: end}, end}
			for _, told := range fields() {
				for _, sent := range fields() {
					r.ack(t, told, sent)
				}
			}
			for range 9 {
				r.ack(t, most, most)
			}
			if id > 1<<62 && r.now.ID != most {
				t.Errorf("from %d: %v", id, r.now)
			}
		}
	}
}
