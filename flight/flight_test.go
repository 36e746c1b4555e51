package flight_test

import (
	"math"
	exact "math/big"
	"slices"
	"sync"
	"testing"

	"sawtooth/api"
	"sawtooth/flight"
)

const (
	most   = math.MaxInt64
	fewest = math.MinInt64
	half   = 1 << 62

	sendIt = 0
	ackIt  = 1
	loseIt = 2
)

func whole(n int) *exact.Int { return exact.NewInt(int64(n)) }

func sum(a, b int) *exact.Int { return new(exact.Int).Add(whole(a), whole(b)) }

func of(sent, told, out int) api.Flight {
	return api.Flight{Sent: sent, Told: told, Out: out}
}

// answer is all that Send, Ack and Lose tell.
type answer struct {
	f   api.Flight
	err api.Errno
}

func answerOf(f api.Flight, err api.Errno) answer { return answer{f, err} }

// mayBe is as the chapter's words say it, in true numbers.
func mayBe(f api.Flight) bool {
	for _, n := range []int{f.Sent, f.Told, f.Out} {
		if n < 0 {
			return false
		}
	}
	return sum(f.Told, f.Out).Cmp(whole(f.Sent)) <= 0
}

// trueRoom is P16.1's Room by its words.
func trueRoom(f api.Flight, room int) *exact.Int {
	above := new(exact.Int).Sub(whole(room), whole(f.Out))
	if !mayBe(f) || above.Sign() < 0 {
		return whole(0)
	}
	return above
}

// trueSend is P16.2 by its words, one behind the other.
func trueSend(f api.Flight, n, room int) answer {
	if !mayBe(f) {
		return answer{f, api.ErrField}
	}
	if n < 1 {
		return answer{f, api.ErrField}
	}
	if sum(f.Sent, n).Cmp(whole(most)) > 0 {
		return answer{f, api.ErrOver}
	}
	if whole(n).Cmp(trueRoom(f, room)) > 0 {
		return answer{f, api.ErrWindow}
	}
	return answer{of(f.Sent+n, f.Told, f.Out+n), api.OK}
}

// trueAck and trueLose are P16.3 by its words.
func trueAck(f api.Flight, n int) answer {
	a := trueLose(f, n)
	if a.err == api.OK {
		a.f.Told += n
	}
	return a
}

func trueLose(f api.Flight, n int) answer {
	if !mayBe(f) {
		return answer{f, api.ErrField}
	}
	if n < 1 {
		return answer{f, api.ErrField}
	}
	if n > f.Out {
		return answer{f, api.ErrAck}
	}
	return answer{of(f.Sent, f.Told, f.Out-n), api.OK}
}

// trueDo is P16.4 by its words, of single acts that are told by these words, too.
func trueDo(f api.Flight, acts [][3]int) (api.Flight, []api.Errno) {
	var errs []api.Errno
	for _, act := range acts {
		a := answer{f, api.ErrField}
		if act[0] == 0 {
			a = trueSend(f, act[1], act[2])
		}
		if act[0] == 1 {
			a = trueAck(f, act[1])
		}
		if act[0] == 2 {
			a = trueLose(f, act[1])
		}
		f = a.f
		errs = append(errs, a.err)
	}
	return f, errs
}

// oneByOne is acts by the single calls, one behind the other.
func oneByOne(f api.Flight, acts [][3]int) (api.Flight, []api.Errno) {
	var errs []api.Errno
	for _, act := range acts {
		err := api.ErrField
		switch act[0] {
		case sendIt:
			f, err = flight.Send(f, act[1], act[2])
		case ackIt:
			f, err = flight.Ack(f, act[1])
		case loseIt:
			f, err = flight.Lose(f, act[1])
		}
		errs = append(errs, err)
	}
	return f, errs
}

// stirred is a row that looks like chance, and is the same each time.
func stirred(seed uint64) func(below int) int {
	return func(below int) int {
		seed = seed*6364136223846793005 + 1442695040888963407
		return int((seed >> 20) % uint64(below))
	}
}

// fields are around 0, small ones whose sums are there too, around the half of the edges, and both edges.
func fields() []int {
	return []int{fewest, fewest + 1, -half, -5, -1, 0, 1, 2, 3, 5, 8, half - 1, half, half + 1, most - 2, most - 1, most}
}

// flights are all fields beside each other, of which most may not be.
func flights() []api.Flight {
	var l []api.Flight
	for _, sent := range fields() {
		for _, told := range fields() {
			for _, out := range fields() {
				l = append(l, of(sent, told, out))
			}
		}
	}
	return l
}

// near are numbers around n, on both sides, where these do not go round.
func near(n int) []int {
	l := []int{n}
	for by := 1; by <= 2; by++ {
		if n >= fewest+by {
			l = append(l, n-by)
		}
		if n <= most-by {
			l = append(l, n+by)
		}
	}
	return l
}

// beside are numbers around those at which something turns for f: 0, each of its numbers, how many may be sent yet, and both edges.
func beside(f api.Flight) []int {
	var l []int
	for _, n := range []int{fewest, -half, 0, f.Sent, f.Told, f.Out, half, most} {
		l = append(l, near(n)...)
	}
	if f.Sent >= 0 {
		l = append(l, near(most-f.Sent)...)
	}
	slices.Sort(l)
	return slices.Compact(l)
}

// wrong are flights that may not be, by each number, and by all together.
func wrong() []api.Flight {
	return []api.Flight{
		of(-1, 0, 0), of(0, -1, 0), of(0, 0, -1), of(-1, -1, -1), of(10, -1, 5), of(10, 5, -1), of(-10, 5, 5), of(-10, -20, 5), of(-10, -15, 5),
		of(0, 1, 0), of(0, 0, 1), of(10, 11, 0), of(10, 0, 11), of(10, 6, 5), of(10, 5, 6), of(10, 10, 1), of(10, 1, 10),
		of(most, most, 1), of(most, 1, most), of(most, most, most), of(most, half, half), of(0, half, half), of(0, most, most), of(5, most, 7),
		of(fewest, 0, 0), of(fewest, 1, 1), of(fewest, most, 1), of(fewest, half, half), of(fewest, fewest, fewest), of(0, fewest, 0), of(0, 0, fewest), of(10, fewest, 5), of(10, 5, fewest), of(most, fewest, most), of(most, most, fewest), of(0, fewest, most),
	}
}

// P16.1: each number below 0, 0 and above, and Told and Out, added, just below, at and just above Sent.
func TestCheck(t *testing.T) {
	for _, c := range []struct {
		f    api.Flight
		want bool
	}{
		{of(0, 0, 0), true},
		{of(1, 0, 0), true},
		{of(1, 1, 0), true},
		{of(1, 0, 1), true},
		{of(1, 1, 1), false},

		{of(-1, 0, 0), false},
		{of(0, -1, 0), false},
		{of(0, 0, -1), false},
		{of(-1, -1, 0), false},
		{of(-1, 0, -1), false},
		{of(0, -1, -1), false},
		{of(-1, -1, -1), false},
		{of(1, -1, 1), false},
		{of(1, 1, -1), false},
		{of(1, -1, 2), false},
		{of(1, 2, -1), false},
		{of(-1, -1, 1), false},
		{of(-1, 1, -1), false},

		{of(10, 4, 5), true},
		{of(10, 5, 5), true},
		{of(10, 6, 5), false},
		{of(10, 5, 4), true},
		{of(10, 5, 6), false},
		{of(10, 9, 0), true},
		{of(10, 10, 0), true},
		{of(10, 11, 0), false},
		{of(10, 0, 9), true},
		{of(10, 0, 10), true},
		{of(10, 0, 11), false},

		{of(most, 0, 0), true},
		{of(most, most, 0), true},
		{of(most, 0, most), true},
		{of(most, most, 1), false},
		{of(most, 1, most), false},
		{of(most, most-1, 1), true},
		{of(most, 1, most-1), true},
		{of(most, half, half-1), true},
		{of(most, half-1, half), true},
		{of(most, half, half), false},
		{of(most, most, most), false},
		{of(most-1, half, half-1), false},
		{of(most-1, half-1, half-1), true},
		{of(0, half, half), false},
		{of(0, most, most), false},
		{of(0, most, 1), false},
		{of(0, most, 2), false},
		{of(5, most, 7), false},

		{of(fewest, 0, 0), false},
		{of(fewest, 1, 1), false},
		{of(fewest, most, 1), false},
		{of(fewest, 0, most), false},
		{of(fewest, half, half), false},
		{of(fewest, fewest, 0), false},
		{of(fewest, fewest, fewest), false},
		{of(0, fewest, fewest), false},
		{of(0, fewest, most), false},
		{of(0, most, fewest), false},
		{of(most, fewest, most), false},
		{of(most, most, fewest), false},
	} {
		if is := flight.Check(c.f); is != c.want {
			t.Errorf("Check(%+v): %v", c.f, is)
		}
	}
	for _, f := range wrong() {
		if flight.Check(f) {
			t.Errorf("Check(%+v)", f)
		}
	}
}

// P16.1: all fields beside each other, and Sent around what Told and Out are together, in true numbers.
func TestCheckAtTheEdges(t *testing.T) {
	for _, f := range flights() {
		holdCheck(t, f)
		if both := sum(f.Told, f.Out); both.IsInt64() {
			for _, sent := range near(int(both.Int64())) {
				holdCheck(t, of(sent, f.Told, f.Out))
			}
		}
	}
}

func holdCheck(t *testing.T, f api.Flight) {
	t.Helper()
	if is, want := flight.Check(f), mayBe(f); is != want {
		t.Fatalf("Check(%+v): %v", f, is)
	}
}

// P16.1: room below, at and above Out, below 0, at both edges, and of a flight that may not be.
func TestRoom(t *testing.T) {
	for _, c := range []struct {
		f          api.Flight
		room, want int
	}{
		{of(0, 0, 0), 0, 0},
		{of(0, 0, 0), 1, 1},
		{of(0, 0, 0), -1, 0},
		{of(0, 0, 0), most, most},
		{of(0, 0, 0), fewest, 0},

		{of(10, 2, 5), 8, 3},
		{of(10, 2, 5), 7, 2},
		{of(10, 2, 5), 6, 1},
		{of(10, 2, 5), 5, 0},
		{of(10, 2, 5), 4, 0},
		{of(10, 2, 5), 1, 0},
		{of(10, 2, 5), 0, 0},
		{of(10, 2, 5), -1, 0},
		{of(10, 2, 5), -5, 0},
		{of(10, 2, 5), 10, 5},
		{of(10, 2, 5), 11, 6},
		{of(10, 2, 5), 1000, 995},
		{of(10, 10, 0), 3, 3},
		{of(10, 2, 5), half, half - 5},
		{of(10, 2, 5), most, most - 5},
		{of(10, 2, 5), most - 1, most - 6},
		{of(10, 2, 5), fewest, 0},
		{of(10, 2, 5), fewest + 4, 0},
		{of(10, 2, 5), fewest + 5, 0},

		{of(most, 0, most), most, 0},
		{of(most, 0, most), most - 1, 0},
		{of(most, 0, most), 0, 0},
		{of(most, 0, most), -1, 0},
		{of(most, 0, most), -2, 0},
		{of(most, 0, most), fewest, 0},
		{of(most, 0, most-1), most, 1},
		{of(most, 0, half), -half - 1, 0},
		{of(most, 0, half), fewest, 0},
	} {
		if n := flight.Room(c.f, c.room); n != c.want {
			t.Errorf("Room(%+v, %d): %d, not %d", c.f, c.room, n, c.want)
		}
	}
	for _, f := range wrong() {
		for _, room := range []int{fewest, -5, -1, 0, 1, 5, 6, 11, 100, half, most} {
			if n := flight.Room(f, room); n != 0 {
				t.Errorf("Room(%+v, %d): %d", f, room, n)
			}
		}
	}
}

// P16.1: all flights, and room around each of their numbers, in true numbers.
func TestRoomAsTheWords(t *testing.T) {
	for _, f := range flights() {
		for _, room := range beside(f) {
			n := flight.Room(f, room)
			if want := trueRoom(f, room); whole(n).Cmp(want) != 0 {
				t.Fatalf("Room(%+v, %d): %d, not %v", f, room, n, want)
			}
		}
	}
}

// The chapter's example.
func TestExample(t *testing.T) {
	f, err := flight.Send(api.Flight{}, 5, 8)
	if f != of(5, 0, 5) || err != api.OK {
		t.Errorf("Send 5: %+v, %d", f, err)
	}
	if f, err := flight.Send(f, 4, 8); f != of(5, 0, 5) || err != api.ErrWindow {
		t.Errorf("Send 4: %+v, %d", f, err)
	}
	g, errs := flight.Do(api.Flight{}, [][3]int{{0, 5, 8}, {0, 4, 8}})
	if g != of(5, 0, 5) || !slices.Equal(errs, []api.Errno{api.OK, api.ErrWindow}) {
		t.Errorf("Do: %+v, %v", g, errs)
	}
}

// P16.2: what there is room for is sent, and one more is not.
func TestSend(t *testing.T) {
	for _, c := range []struct {
		f       api.Flight
		n, room int
		want    answer
	}{
		{of(0, 0, 0), 1, 1, answer{of(1, 0, 1), api.OK}},
		{of(0, 0, 0), 1, 0, answer{of(0, 0, 0), api.ErrWindow}},
		{of(0, 0, 0), 2, 1, answer{of(0, 0, 0), api.ErrWindow}},
		{of(0, 0, 0), 1, -1, answer{of(0, 0, 0), api.ErrWindow}},
		{of(0, 0, 0), 1, fewest, answer{of(0, 0, 0), api.ErrWindow}},
		{of(0, 0, 0), 1, most, answer{of(1, 0, 1), api.OK}},
		{of(0, 0, 0), most, most, answer{of(most, 0, most), api.OK}},
		{of(0, 0, 0), most, most - 1, answer{of(0, 0, 0), api.ErrWindow}},
		{of(0, 0, 0), most - 1, most - 1, answer{of(most-1, 0, most-1), api.OK}},

		{of(10, 2, 5), 1, 8, answer{of(11, 2, 6), api.OK}},
		{of(10, 2, 5), 2, 8, answer{of(12, 2, 7), api.OK}},
		{of(10, 2, 5), 3, 8, answer{of(13, 2, 8), api.OK}},
		{of(10, 2, 5), 4, 8, answer{of(10, 2, 5), api.ErrWindow}},
		{of(10, 2, 5), 1, 6, answer{of(11, 2, 6), api.OK}},
		{of(10, 2, 5), 1, 5, answer{of(10, 2, 5), api.ErrWindow}},
		{of(10, 2, 5), 1, 4, answer{of(10, 2, 5), api.ErrWindow}},
		{of(10, 2, 5), 1, 0, answer{of(10, 2, 5), api.ErrWindow}},
		{of(10, 2, 5), 1, fewest, answer{of(10, 2, 5), api.ErrWindow}},
		{of(10, 10, 0), 8, 8, answer{of(18, 10, 8), api.OK}},
		{of(10, 0, 10), 90, 100, answer{of(100, 0, 100), api.OK}},
		{of(10, 0, 10), 91, 100, answer{of(10, 0, 10), api.ErrWindow}},

		{of(10, 2, 5), most - 10, most, answer{of(most, 2, most-5), api.OK}},
		{of(most-1, 0, 0), 1, 1, answer{of(most, 0, 1), api.OK}},
		{of(most-1, most-1, 0), 1, 1, answer{of(most, most-1, 1), api.OK}},
		{of(most-1, 0, most-1), 1, most, answer{of(most, 0, most), api.OK}},
		{of(half, 3, 4), half - 1, half + 3, answer{of(most, 3, half+3), api.OK}},
		{of(half, 3, 4), half - 1, half + 2, answer{of(half, 3, 4), api.ErrWindow}},
	} {
		if a := answerOf(flight.Send(c.f, c.n, c.room)); a != c.want {
			t.Errorf("Send(%+v, %d, %d): %+v, not %+v", c.f, c.n, c.room, a, c.want)
		}
	}
}

// P16.2: each error by itself, and ahead of those behind it; all is as it was.
func TestSendErrors(t *testing.T) {
	for _, c := range []struct {
		f       api.Flight
		n, room int
		want    api.Errno
	}{
		{of(10, 2, 5), 0, 8, api.ErrField},
		{of(10, 2, 5), -1, 8, api.ErrField},
		{of(10, 2, 5), -5, 8, api.ErrField},
		{of(10, 2, 5), fewest, most, api.ErrField},
		{of(10, 2, 5), fewest + 1, 8, api.ErrField},
		{of(10, 2, 5), 0, 5, api.ErrField},
		{of(10, 2, 5), 0, fewest, api.ErrField},
		{of(10, 2, 5), -1, -1, api.ErrField},
		{of(most, 2, 5), 0, 8, api.ErrField},
		{of(most, 2, 5), 0, 5, api.ErrField},
		{of(most, 2, 5), -1, 0, api.ErrField},
		{of(0, 0, 0), 0, 0, api.ErrField},
		{of(0, 0, 0), 0, 1, api.ErrField},

		{of(most, 2, 5), 1, 8, api.ErrOver},
		{of(most, 2, 5), 1, 5, api.ErrOver},
		{of(most, 2, 5), 1, fewest, api.ErrOver},
		{of(most, 2, 5), most, most, api.ErrOver},
		{of(most-1, 0, 0), 2, 2, api.ErrOver},
		{of(most-1, 0, 0), 2, 1, api.ErrOver},
		{of(most-1, 0, most-1), 2, most, api.ErrOver},
		{of(most, 0, most), 1, most, api.ErrOver},
		{of(10, 2, 5), most - 9, most, api.ErrOver},
		{of(10, 2, 5), most - 9, 0, api.ErrOver},
		{of(10, 2, 5), most, most, api.ErrOver},
		{of(1, 0, 0), most, most, api.ErrOver},
		{of(half, 0, 0), half, most, api.ErrOver},
		{of(half, 0, 0), half, 0, api.ErrOver},

		{of(10, 2, 5), most - 10, most - 6, api.ErrWindow},
		{of(10, 2, 5), most - 10, 0, api.ErrWindow},
		{of(most-1, 0, 0), 1, 0, api.ErrWindow},
		{of(most-1, 0, 5), 1, 5, api.ErrWindow},
		{of(half, 0, 0), half - 1, half - 2, api.ErrWindow},
		{of(10, 2, 5), 4, 8, api.ErrWindow},
		{of(10, 2, 5), 1, -most, api.ErrWindow},
	} {
		if a := answerOf(flight.Send(c.f, c.n, c.room)); a != (answer{c.f, c.want}) {
			t.Errorf("Send(%+v, %d, %d): %+v, not %d", c.f, c.n, c.room, a, c.want)
		}
	}
	for _, f := range wrong() {
		for _, n := range []int{fewest, -1, 0, 1, 5, half, most - 10, most} {
			for _, room := range []int{fewest, -1, 0, 1, 5, 8, 100, most} {
				if a := answerOf(flight.Send(f, n, room)); a != (answer{f, api.ErrField}) {
					t.Errorf("Send(%+v, %d, %d): %+v", f, n, room, a)
				}
			}
		}
	}
}

// P16.2: all flights, n around each number at which something turns, and room around what both need, in true numbers.
func TestSendAsTheWords(t *testing.T) {
	for _, f := range flights() {
		if !mayBe(f) {
			holdSend(t, f, 1, most)
			holdSend(t, f, 0, 0)
			continue
		}
		for _, n := range beside(f) {
			for _, room := range []int{fewest, -1, 0, 1, f.Out, f.Sent, half, most - 1, most} {
				holdSend(t, f, n, room)
			}
			if needs := sum(f.Out, n); needs.IsInt64() {
				for _, room := range near(int(needs.Int64())) {
					holdSend(t, f, n, room)
				}
			}
		}
	}
}

func holdSend(t *testing.T, f api.Flight, n, room int) {
	t.Helper()
	a, want := answerOf(flight.Send(f, n, room)), trueSend(f, n, room)
	if a != want {
		t.Fatalf("Send(%+v, %d, %d): %+v, not %+v", f, n, room, a, want)
	}
	if mayBe(f) && !mayBe(a.f) {
		t.Fatalf("Send(%+v, %d, %d) may not be: %+v", f, n, room, a.f)
	}
}

// P16.3: what is told of, or lost, is not on its way any more, and only what is told of is counted.
func TestAckAndLose(t *testing.T) {
	for _, c := range []struct {
		f         api.Flight
		n         int
		ack, lose answer
	}{
		{of(10, 2, 5), 1, answer{of(10, 3, 4), api.OK}, answer{of(10, 2, 4), api.OK}},
		{of(10, 2, 5), 2, answer{of(10, 4, 3), api.OK}, answer{of(10, 2, 3), api.OK}},
		{of(10, 2, 5), 4, answer{of(10, 6, 1), api.OK}, answer{of(10, 2, 1), api.OK}},
		{of(10, 2, 5), 5, answer{of(10, 7, 0), api.OK}, answer{of(10, 2, 0), api.OK}},
		{of(1, 0, 1), 1, answer{of(1, 1, 0), api.OK}, answer{of(1, 0, 0), api.OK}},
		{of(10, 0, 10), 10, answer{of(10, 10, 0), api.OK}, answer{of(10, 0, 0), api.OK}},
		{of(10, 9, 1), 1, answer{of(10, 10, 0), api.OK}, answer{of(10, 9, 0), api.OK}},
		{of(most, 0, most), 1, answer{of(most, 1, most-1), api.OK}, answer{of(most, 0, most-1), api.OK}},
		{of(most, 0, most), most - 1, answer{of(most, most-1, 1), api.OK}, answer{of(most, 0, 1), api.OK}},
		{of(most, 0, most), most, answer{of(most, most, 0), api.OK}, answer{of(most, 0, 0), api.OK}},
		{of(most, most-1, 1), 1, answer{of(most, most, 0), api.OK}, answer{of(most, most-1, 0), api.OK}},
		{of(most, half-1, half), half, answer{of(most, most, 0), api.OK}, answer{of(most, half-1, 0), api.OK}},
	} {
		if a := answerOf(flight.Ack(c.f, c.n)); a != c.ack {
			t.Errorf("Ack(%+v, %d): %+v, not %+v", c.f, c.n, a, c.ack)
		}
		if a := answerOf(flight.Lose(c.f, c.n)); a != c.lose {
			t.Errorf("Lose(%+v, %d): %+v, not %+v", c.f, c.n, a, c.lose)
		}
	}
}

// P16.3: each error by itself, and ErrField ahead of ErrAck; all is as it was.
func TestAckAndLoseErrors(t *testing.T) {
	for _, c := range []struct {
		f    api.Flight
		n    int
		want api.Errno
	}{
		{of(10, 2, 5), 0, api.ErrField},
		{of(10, 2, 5), -1, api.ErrField},
		{of(10, 2, 5), -5, api.ErrField},
		{of(10, 2, 5), fewest, api.ErrField},
		{of(10, 2, 5), fewest + 1, api.ErrField},
		{of(10, 10, 0), 0, api.ErrField},
		{of(10, 10, 0), -1, api.ErrField},
		{of(10, 10, 0), fewest, api.ErrField},
		{of(0, 0, 0), 0, api.ErrField},
		{of(0, 0, 0), -1, api.ErrField},
		{of(most, 0, most), 0, api.ErrField},
		{of(most, 0, most), fewest, api.ErrField},

		{of(10, 2, 5), 6, api.ErrAck},
		{of(10, 2, 5), 7, api.ErrAck},
		{of(10, 2, 5), 10, api.ErrAck},
		{of(10, 2, 5), 11, api.ErrAck},
		{of(10, 2, 5), half, api.ErrAck},
		{of(10, 2, 5), most - 1, api.ErrAck},
		{of(10, 2, 5), most, api.ErrAck},
		{of(10, 10, 0), 1, api.ErrAck},
		{of(10, 0, 0), 1, api.ErrAck},
		{of(0, 0, 0), 1, api.ErrAck},
		{of(0, 0, 0), most, api.ErrAck},
		{of(most, 0, most-1), most, api.ErrAck},
		{of(most, most, 0), 1, api.ErrAck},
		{of(most, most, 0), most, api.ErrAck},
	} {
		holdRefused(t, c.f, c.n, c.want)
	}
	for _, f := range wrong() {
		for _, n := range append(beside(f), 5, 6, 10, 11) {
			holdRefused(t, f, n, api.ErrField)
		}
	}
}

func holdRefused(t *testing.T, f api.Flight, n int, want api.Errno) {
	t.Helper()
	if a := answerOf(flight.Ack(f, n)); a != (answer{f, want}) {
		t.Errorf("Ack(%+v, %d): %+v, not %d", f, n, a, want)
	}
	if a := answerOf(flight.Lose(f, n)); a != (answer{f, want}) {
		t.Errorf("Lose(%+v, %d): %+v, not %d", f, n, a, want)
	}
}

// P16.3: all flights, and n around each number at which something turns.
func TestAckAndLoseAsTheWords(t *testing.T) {
	for _, f := range flights() {
		for _, n := range beside(f) {
			a, want := answerOf(flight.Ack(f, n)), trueAck(f, n)
			if a != want {
				t.Fatalf("Ack(%+v, %d): %+v, not %+v", f, n, a, want)
			}
			b, want := answerOf(flight.Lose(f, n)), trueLose(f, n)
			if b != want {
				t.Fatalf("Lose(%+v, %d): %+v, not %+v", f, n, b, want)
			}
			if mayBe(f) && !(mayBe(a.f) && mayBe(b.f)) {
				t.Fatalf("of %+v, %d: %+v, %+v may not be", f, n, a.f, b.f)
			}
		}
	}
}

// P16.4: no acts, each kind, other kinds, and errors between acts that are done.
func TestDo(t *testing.T) {
	type acts = [][3]int
	type errs = []api.Errno
	for _, c := range []struct {
		f    api.Flight
		acts acts
		want api.Flight
		errs errs
	}{
		{of(10, 2, 5), nil, of(10, 2, 5), nil},
		{of(10, 2, 5), acts{}, of(10, 2, 5), errs{}},
		{of(0, 0, 0), nil, of(0, 0, 0), nil},

		{of(10, 2, 5), acts{{0, 3, 8}}, of(13, 2, 8), errs{api.OK}},
		{of(10, 2, 5), acts{{0, 4, 8}}, of(10, 2, 5), errs{api.ErrWindow}},
		{of(10, 2, 5), acts{{0, 0, 8}}, of(10, 2, 5), errs{api.ErrField}},
		{of(10, 2, 5), acts{{0, most, 8}}, of(10, 2, 5), errs{api.ErrOver}},
		{of(10, 2, 5), acts{{1, 3, 0}}, of(10, 5, 2), errs{api.OK}},
		{of(10, 2, 5), acts{{1, 3, fewest}}, of(10, 5, 2), errs{api.OK}},
		{of(10, 2, 5), acts{{1, 5, -1}}, of(10, 7, 0), errs{api.OK}},
		{of(10, 2, 5), acts{{1, 6, 6}}, of(10, 2, 5), errs{api.ErrAck}},
		{of(10, 2, 5), acts{{1, 0, 3}}, of(10, 2, 5), errs{api.ErrField}},
		{of(10, 2, 5), acts{{2, 3, 0}}, of(10, 2, 2), errs{api.OK}},
		{of(10, 2, 5), acts{{2, 5, most}}, of(10, 2, 0), errs{api.OK}},
		{of(10, 2, 5), acts{{2, 6, 1}}, of(10, 2, 5), errs{api.ErrAck}},
		{of(10, 2, 5), acts{{2, -1, 1}}, of(10, 2, 5), errs{api.ErrField}},

		{of(10, 2, 5), acts{{3, 1, 8}}, of(10, 2, 5), errs{api.ErrField}},
		{of(10, 2, 5), acts{{-1, 1, 8}}, of(10, 2, 5), errs{api.ErrField}},
		{of(10, 2, 5), acts{{-2, 1, 8}}, of(10, 2, 5), errs{api.ErrField}},
		{of(10, 2, 5), acts{{4, 1, 8}}, of(10, 2, 5), errs{api.ErrField}},
		{of(10, 2, 5), acts{{256, 1, 8}}, of(10, 2, 5), errs{api.ErrField}},
		{of(10, 2, 5), acts{{1 << 32, 1, 8}}, of(10, 2, 5), errs{api.ErrField}},
		{of(10, 2, 5), acts{{most, 1, 8}}, of(10, 2, 5), errs{api.ErrField}},
		{of(10, 2, 5), acts{{fewest, 1, 8}}, of(10, 2, 5), errs{api.ErrField}},
		{of(10, 2, 5), acts{{3, most, 8}, {3, 6, 0}, {-1, 6, 0}}, of(10, 2, 5), errs{api.ErrField, api.ErrField, api.ErrField}},

		{of(0, 0, 0), acts{{0, 5, 8}, {0, 3, 8}, {1, 4, 0}, {2, 1, 0}, {0, 5, 8}}, of(13, 4, 8), errs{api.OK, api.OK, api.OK, api.OK, api.OK}},
		{of(0, 0, 0), acts{{0, 5, 8}, {0, 4, 8}, {0, 3, 8}}, of(8, 0, 8), errs{api.OK, api.ErrWindow, api.OK}},
		{of(0, 0, 0), acts{{1, 1, 0}, {0, 5, 8}, {1, 6, 0}, {1, 5, 0}}, of(5, 5, 0), errs{api.ErrAck, api.OK, api.ErrAck, api.OK}},
		{of(0, 0, 0), acts{{2, 1, 0}, {0, 5, 8}, {2, 6, 0}, {2, 5, 0}}, of(5, 0, 0), errs{api.ErrAck, api.OK, api.ErrAck, api.OK}},
		{of(0, 0, 0), acts{{0, 5, 8}, {3, 1, 1}, {1, 2, 0}, {-1, 1, 1}, {2, 1, 0}, {0, 0, 9}, {0, most, most}, {0, 1, 3}}, of(6, 2, 3), errs{api.OK, api.ErrField, api.OK, api.ErrField, api.OK, api.ErrField, api.ErrOver, api.OK}},
		{of(most-1, 0, 0), acts{{0, 1, 1}, {0, 1, 2}, {1, 1, 0}, {0, 1, 2}}, of(most, 1, 0), errs{api.OK, api.ErrOver, api.OK, api.ErrOver}},
	} {
		f, errs := flight.Do(c.f, c.acts)
		if f != c.want || !slices.Equal(errs, c.errs) {
			t.Errorf("Do(%+v, %v): %+v, %v, not %+v, %v", c.f, c.acts, f, errs, c.want, c.errs)
		}
	}
}

// P16.4, and what stands at the promises' head: of a flight that may not be each act tells ErrField, whatever it is.
func TestDoOfWhatMayNotBe(t *testing.T) {
	acts := [][3]int{{0, 1, most}, {1, 1, 0}, {2, 1, 0}, {0, 0, 0}, {0, most, 0}, {1, most, 0}, {2, most, 0}, {3, 1, 1}, {-1, 1, 1}, {1, -1, 0}, {2, fewest, 0}, {most, 1, 1}, {fewest, 1, 1}}
	for _, f := range wrong() {
		g, errs := flight.Do(f, acts)
		if g != f || len(errs) != len(acts) {
			t.Fatalf("Do(%+v): %+v, %v", f, g, errs)
		}
		for i, err := range errs {
			if err != api.ErrField {
				t.Errorf("Do(%+v): %v: %d", f, acts[i], err)
			}
		}
		if g, errs := flight.Do(f, nil); g != f || len(errs) != 0 {
			t.Errorf("Do(%+v) of no acts: %+v, %v", f, g, errs)
		}
	}
}

// holdDo holds acts against the single calls, and against the chapter's words.
func holdDo(t *testing.T, f api.Flight, acts [][3]int) {
	t.Helper()
	g, errs := flight.Do(f, acts)
	one, oneErrs := oneByOne(f, acts)
	if g != one || !slices.Equal(errs, oneErrs) {
		t.Fatalf("Do(%+v, %v): %+v, %v, not %+v, %v as one by one", f, acts, g, errs, one, oneErrs)
	}
	want, wantErrs := trueDo(f, acts)
	if g != want || !slices.Equal(errs, wantErrs) {
		t.Fatalf("Do(%+v, %v): %+v, %v, not %+v, %v as the words", f, acts, g, errs, want, wantErrs)
	}
}

// P16.4: single acts of all flights, of each kind and beside them, with numbers at which something turns.
func TestDoOfOneAct(t *testing.T) {
	for _, f := range flights() {
		for _, kind := range []int{fewest, -1, 0, 1, 2, 3, most} {
			for _, n := range []int{fewest, -1, 0, 1, 5, f.Out, most} {
				for _, room := range []int{fewest, 0, 8, f.Out, most} {
					holdDo(t, f, [][3]int{{kind, n, room}})
				}
			}
		}
	}
}

// P16.4: all short lists of some acts, each of which is done, or refused, by what was done ahead of it.
func TestDoOfShortLists(t *testing.T) {
	some := [][3]int{{0, 1, 2}, {0, 2, 3}, {0, 0, 3}, {0, most, most}, {1, 1, 0}, {1, 2, 9}, {2, 1, 0}, {2, 0, 9}, {3, 1, 9}, {-1, 1, 9}}
	for _, f := range []api.Flight{of(0, 0, 0), of(5, 1, 2), of(most-1, 0, 1), of(5, 5, 1)} {
		for steps := range 5 {
			rows := 1
			for range steps {
				rows *= len(some)
			}
			for which := range rows {
				var acts [][3]int
				for range steps {
					acts = append(acts, some[which%len(some)])
					which /= len(some)
				}
				holdDo(t, f, acts)
			}
		}
	}
}

// acts are many, of all kinds, most of which can be done, and some of which can't.
func acts(seed uint64, many int) [][3]int {
	next := stirred(seed)
	l := make([][3]int, many)
	for i := range l {
		l[i] = [3]int{next(4), next(9) - 1, next(40)}
		if next(25) == 0 {
			l[i][next(3)] = []int{fewest, -1, -7, half, most}[next(5)]
		}
	}
	return l
}

// P16.4: long lists, from flights that may be and that may not be.
func TestDoOfLongLists(t *testing.T) {
	for seed := range 40 {
		for _, f := range []api.Flight{of(0, 0, 0), of(100, 60, 30), of(most-500, 7, 20), of(most, half, half-1), of(3, 2, 2)} {
			holdDo(t, f, acts(uint64(seed), 50*seed))
		}
	}
	holdDo(t, of(0, 0, 0), acts(77, 200000))
}

// P16.4, R3: the acts stay, and so does their spare room.
func TestWhatIsHandedInStays(t *testing.T) {
	for seed := range 20 {
		for many := range 12 {
			all := acts(uint64(seed), many+6)
			was := slices.Clone(all)
			flight.Do(of(20, 5, 9), all[2:many+2])
			flight.Do(of(20, 12, 9), all[:many:many+3])
			if !slices.Equal(all, was) {
				t.Fatalf("%v, not %v any more", all, was)
			}
		}
	}
}

// P16.4, R3: whoever writes over an answer, and its spare room, writes over no other one, nor over the acts.
func TestAnswersHaveTheirOwnMemory(t *testing.T) {
	for many := range 40 {
		l := acts(uint64(many), many)
		was := slices.Clone(l)
		_, first := flight.Do(of(20, 5, 9), l)
		_, second := flight.Do(of(20, 5, 9), l)
		want := slices.Clone(second)
		overwrite(first)
		if !slices.Equal(second, want) {
			t.Fatalf("%v, not %v any more", second, want)
		}
		if _, third := flight.Do(of(20, 5, 9), l); !slices.Equal(third, want) {
			t.Fatalf("%v, not %v as before", third, want)
		}
		overwrite(second)
		if !slices.Equal(l, was) {
			t.Fatalf("%v, not %v any more", l, was)
		}
	}
}

func overwrite(l []api.Errno) {
	l = l[:cap(l)]
	for i := range l {
		l[i] = -1
	}
}

// P16.4, R3: what is written over the acts later does not reach an answer.
func TestNothingIsKept(t *testing.T) {
	l := acts(3, 60)
	f, errs := flight.Do(of(20, 5, 9), l)
	want := slices.Clone(errs)
	for i := range l {
		l[i] = [3]int{7, 7, 7}
	}
	if !slices.Equal(errs, want) {
		t.Errorf("%v, not %v any more", errs, want)
	}
	if g, errs := flight.Do(of(20, 5, 9), acts(3, 60)); g != f || !slices.Equal(errs, want) {
		t.Errorf("%+v, %v, not %+v, %v as before", g, errs, f, want)
	}
}

// R4: calls beside each other answer as each does alone.
func TestCallsBesideEachOther(t *testing.T) {
	var all sync.WaitGroup
	for seed := range 16 {
		all.Add(1)
		go func() {
			defer all.Done()
			l := acts(uint64(seed), 300)
			want, wantErrs := trueDo(of(40, 5, 9), l)
			for range 20 {
				if f, errs := flight.Do(of(40, 5, 9), l); f != want || !slices.Equal(errs, wantErrs) {
					t.Errorf("%+v, %v, not %+v, %v", f, errs, want, wantErrs)
				}
			}
		}()
	}
	all.Wait()
}

// row is a flight, what was sent, told of and lost up to now, and how much of that is on its way, as the row itself counts them, in true numbers.
type row struct {
	f                     api.Flight
	sent, told, lost, out *exact.Int
}

// begin counts as lost what f has neither told of nor on its way.
func begin(f api.Flight) *row {
	lost := new(exact.Int).Sub(whole(f.Sent), sum(f.Told, f.Out))
	return &row{f, whole(f.Sent), whole(f.Told), lost, whole(f.Out)}
}

// act holds one more act against P16.5, whether it is done or refused.
func (r *row) act(t *testing.T, act [3]int) {
	t.Helper()
	before := r.f
	f, errs := flight.Do(before, [][3]int{act})
	if len(errs) != 1 {
		t.Fatalf("Do(%+v, %v): %v", before, act, errs)
	}
	if errs[0] == api.OK {
		r.count(act)
	}
	r.f = f
	if whole(f.Sent).Cmp(r.sent) != 0 || whole(f.Told).Cmp(r.told) != 0 || whole(f.Out).Cmp(r.out) != 0 {
		t.Fatalf("Do(%+v, %v): %+v, %v", before, act, f, errs)
	}
	both := new(exact.Int).Add(r.told, r.lost)
	if both.Add(both, r.out).Cmp(r.sent) != 0 {
		t.Fatalf("Do(%+v, %v): of %v, %v are told of, %v lost, and %v on their way", before, act, r.sent, r.told, r.lost, r.out)
	}
	if f.Told > f.Sent || f.Told < before.Told || f.Sent < before.Sent || !flight.Check(f) {
		t.Fatalf("Do(%+v, %v): %+v", before, act, f)
	}
}

func (r *row) count(act [3]int) {
	n := whole(act[1])
	switch act[0] {
	case sendIt:
		r.sent.Add(r.sent, n)
		r.out.Add(r.out, n)
	case ackIt:
		r.told.Add(r.told, n)
		r.out.Sub(r.out, n)
	case loseIt:
		r.lost.Add(r.lost, n)
		r.out.Sub(r.out, n)
	}
}

// P16.5: long rows of all kinds of acts, those that are refused among them.
func TestLongRows(t *testing.T) {
	for seed := range 30 {
		for _, f := range []api.Flight{of(0, 0, 0), of(100, 60, 30), of(100, 70, 30), of(most-4000, 7, 20), of(most-50, half, 12)} {
			r := begin(f)
			for _, act := range acts(uint64(seed)+1000, 1500) {
				r.act(t, act)
			}
		}
	}
}

// P16.5: long rows in which all is sent that there is room for, and told of or lost in pieces, up to what can be sent at all.
func TestLongRowsOfAllThatGoes(t *testing.T) {
	for seed := range 30 {
		next := stirred(uint64(seed))
		r := begin(api.Flight{})
		for range 400 {
			room := r.f.Out + next(1<<40)<<next(20)
			r.act(t, [3]int{sendIt, flight.Room(r.f, room), room})
			r.act(t, [3]int{sendIt, 1, room})
			for range next(4) {
				r.act(t, [3]int{ackIt + next(2), 1 + next(r.f.Out+1), next(9)})
			}
		}
		r.act(t, [3]int{sendIt, most - r.f.Sent, most})
		r.act(t, [3]int{ackIt, r.f.Out, 0})
		r.act(t, [3]int{sendIt, 1, most})
	}
}

// P16.5: rows by the single calls come to what all that was done tells.
func TestRowsBySingleCalls(t *testing.T) {
	for seed := range 20 {
		var f api.Flight
		sent, told, lost := 0, 0, 0
		for _, act := range acts(uint64(seed)+50, 3000) {
			g, errs := oneByOne(f, [][3]int{act})
			f = g
			if errs[0] != api.OK {
				continue
			}
			switch act[0] {
			case sendIt:
				sent += act[1]
			case ackIt:
				told += act[1]
			case loseIt:
				lost += act[1]
			}
		}
		if want := of(sent, told, sent-told-lost); f != want || told == 0 || lost == 0 {
			t.Errorf("%+v, not %+v", f, want)
		}
	}
}

// P16.5: of all short rows from all that may be, nothing is told of that was not sent.
func TestShortRows(t *testing.T) {
	for _, f := range flights() {
		if !mayBe(f) {
			continue
		}
		for which := range 27 {
			for _, n := range []int{1, 2, f.Out/2 + 1, max(f.Out, 1), most} {
				r := begin(f)
				for _, kind := range []int{which % 3, which / 3 % 3, which / 9} {
					r.act(t, [3]int{kind, n, most})
				}
			}
		}
	}
}
