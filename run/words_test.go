package run_test

import (
	"math"
	"math/big"
	"reflect"
	"slices"
	"strings"
	"testing"
	"unsafe"

	"sawtooth/api"
	"sawtooth/replay"
	"sawtooth/run"
)

const (
	one      = 65536
	maxSegs  = 1048576
	greatest = 68719476736
	maxTime  = 1099511627776
	maxRtt   = 1073741824
	maxBytes = 1073741824
	most     = math.MaxInt64
	fewest   = math.MinInt64
)

const (
	ack = 1 + iota
	loss
	ecn
	timeout
	idle
	send
	tick
)

// usual is a configuration that may be: segments of 1000 bytes, which make bytes easy to read.
func usual() api.Config {
	return api.Config{Seg: 1000, Max: 1000, First: 10, Grain: 1000, Least: 200000, Great: 60000000, Burst: 10}
}

// usualBytes are those of usual, worked out beforehand.
const usualBytes = "\xd0\x0f\xd0\x0f\x14\xd0\x0f\x80\xb5\x18\x80\x9c\x9c\x39\x14"

// spelt are the bytes of numbers by the chapter's words, in whole numbers of any size, which have no edge.
func spelt(l ...int) string {
	var b []byte
	base := big.NewInt(128)
	for _, n := range l {
		u := big.NewInt(int64(n))
		u.Mul(u, big.NewInt(2))
		if n < 0 {
			u.Neg(u)
			u.Sub(u, big.NewInt(1))
		}
		for u.Cmp(base) >= 0 {
			digit := new(big.Int)
			u.DivMod(u, base, digit)
			b = append(b, byte(128+digit.Int64()))
		}
		b = append(b, byte(u.Int64()))
	}
	return string(b)
}

// worth is which number without a sign the bytes' digits are, how many there may be of them.
func worth(b string) *big.Int {
	u := new(big.Int)
	for i := len(b) - 1; i >= 0; i-- {
		u.Mul(u, big.NewInt(128))
		u.Add(u, big.NewInt(int64(b[i]%128)))
	}
	return u
}

// trueTake seeks, of b's beginnings, one that is the bytes of a number.
func trueTake(b string) (int, string, bool) {
	for k := 1; k <= min(len(b), 10); k++ {
		u := worth(b[:k])
		n := new(big.Int).Rsh(u, 1)
		if u.Bit(0) == 1 {
			n.Neg(n)
			n.Sub(n, big.NewInt(1))
		}
		if n.IsInt64() && spelt(int(n.Int64())) == b[:k] {
			return int(n.Int64()), b[k:], true
		}
	}
	return 0, "", false
}

// trueNumbers are the numbers that b is, one behind the other.
func trueNumbers(b string) ([]int, bool) {
	var l []int
	for b != "" {
		n, rest, ok := trueTake(b)
		if !ok {
			return nil, false
		}
		l, b = append(l, n), rest
	}
	return l, true
}

// trueRead has all numbers of b first, and then parts them.
func trueRead(b string) (api.Script, bool) {
	l, ok := trueNumbers(b)
	if !ok || len(l) < 8 {
		return api.Script{}, false
	}
	s := api.Script{Config: api.Config{Seg: l[0], Max: l[1], First: l[2], Grain: l[3], Least: l[4], Great: l[5], Burst: l[6]}}
	many, l := l[7], l[8:]
	for len(s.Raw) < many {
		if len(l) == 0 || !within(l[0], 0, len(l)-1) {
			return api.Script{}, false
		}
		s.Raw = append(s.Raw, slices.Clone(l[1:1+l[0]]))
		l = l[1+l[0]:]
	}
	return s, many >= 0 && len(l) == 0
}

func within(n, low, high int) bool {
	return low <= n && n <= high
}

// trueConfig says in plain numbers which configurations may be.
func trueConfig(c api.Config) bool {
	return within(c.Seg, 1, 9000) && within(c.Max, 4, maxSegs) && within(c.First, 2, c.Max) && within(c.Grain, 1, 1000000) &&
		within(c.Great, 1, maxTime) && within(c.Least, 1, c.Great) && within(c.Burst, 1, 1000)
}

func written(s api.Script) string {
	c := s.Config
	b := spelt(c.Seg, c.Max, c.First, c.Grain, c.Least, c.Great, c.Burst, len(s.Raw))
	for _, r := range s.Raw {
		b += spelt(len(r)) + spelt(r...)
	}
	return b
}

func reported(l []api.Note) string {
	b := []string{spelt(len(l))}
	for _, n := range l {
		b = append(b, spelt(int(n.Err), n.Window, n.Thresh, n.Rate, n.Rto, n.Part))
	}
	return strings.Join(b, "")
}

func trueRun(b string) (string, api.Errno) {
	s, ok := trueRead(b)
	if !ok {
		return "", api.ErrScript
	}
	if !trueConfig(s.Config) {
		return "", api.ErrConfig
	}
	notes, _ := replay.Play(s.Config, s.Raw)
	return reported(notes), api.OK
}

// sameScript takes lists without elements as the same ones.
func sameScript(a, b api.Script) bool {
	return a.Config == b.Config && slices.EqualFunc(a.Raw, b.Raw, func(a, b []int) bool { return slices.Equal(a, b) })
}

// empty is whether there is nothing in s.
func empty(s api.Script) bool {
	return sameScript(s, api.Script{})
}

// apart fails, if an answer lies in the memory of a text that was handed in.
func apart(t *testing.T, answer, given string) {
	t.Helper()
	if answer == "" || given == "" {
		return
	}
	a, g := uintptr(unsafe.Pointer(unsafe.StringData(answer))), uintptr(unsafe.Pointer(unsafe.StringData(given)))
	if a < g+uintptr(len(given)) && g < a+uintptr(len(answer)) {
		t.Fatalf("%q is in the memory of %q", answer, given)
	}
}

// held is a text within a longer one, in memory of its own.
type held struct{ around, text string }

const pad = "\x08\x0e\x00\x00\x00\x80\xff"

func hold(b string) held {
	around := strings.Join([]string{pad, b, pad}, "")
	return held{around, around[len(pad) : len(around)-len(pad)]}
}

// unchanged fails, if h is not as it was with b.
func (h held) unchanged(t *testing.T, b string) {
	t.Helper()
	if h.around != pad+b+pad {
		t.Fatalf("%q was changed: %q", b, h.around)
	}
}

// holdPut holds Put against the chapter's words, and what was given against what it was.
func holdPut(t *testing.T, b string, l ...int) string {
	t.Helper()
	h := hold(b)
	given := append(slices.Clone(l), 4, 7, 11)[:len(l)]
	kept := slices.Clone(given[:cap(given)])
	got := run.Put(h.text, given...)
	if want := b + spelt(l...); got != want {
		t.Fatalf("Put(%q, %v): %q, not %q", b, l, got, want)
	}
	if !slices.Equal(given[:cap(given)], kept) {
		t.Fatalf("Put(%q, %v) changed %v: %v", b, l, kept, given[:cap(given)])
	}
	apart(t, got, h.around)
	h.unchanged(t, b)
	return got
}

// holdTake holds Take against the chapter's words.
func holdTake(t *testing.T, b string) (int, string, api.Errno) {
	t.Helper()
	h := hold(b)
	n, rest, err := run.Take(h.text)
	wantN, wantRest, ok := trueTake(b)
	wantErr := api.OK
	if !ok {
		wantErr = api.ErrScript
	}
	if n != wantN || rest != wantRest || err != wantErr {
		t.Fatalf("Take(%q): %d, %q, %v, not %d, %q, %v", b, n, rest, err, wantN, wantRest, wantErr)
	}
	apart(t, rest, h.around)
	h.unchanged(t, b)
	return n, rest, err
}

// roomy is the same script in memory of its own, all with spare room in which something stands.
func roomy(s api.Script) api.Script {
	raw := make([][]int, 0, len(s.Raw)+2)
	for _, r := range s.Raw {
		raw = append(raw, append(slices.Clone(r), 4, 7, 11)[:len(r)])
	}
	return api.Script{Config: s.Config, Raw: append(raw, []int{tick, 0, 0, 0}, []int{tick, 1, 0, 0})[:len(s.Raw)]}
}

// whole is a copy of s, with all that stands in its spare room.
func whole(s api.Script) api.Script {
	raw := slices.Clone(s.Raw[:cap(s.Raw)])
	for i, r := range raw {
		raw[i] = slices.Clone(r[:cap(r)])
	}
	return api.Script{Config: s.Config, Raw: raw}
}

// holdWrite holds Write against the chapter's words, and what was given against what it was.
func holdWrite(t *testing.T, s api.Script) string {
	t.Helper()
	given := roomy(s)
	kept := whole(given)
	got := run.Write(given)
	if want := written(s); got != want {
		t.Fatalf("Write(%+v): %q, not %q", s, got, want)
	}
	if !reflect.DeepEqual(whole(given), kept) {
		t.Fatalf("%+v was changed: %+v", kept, whole(given))
	}
	return got
}

// holdRead holds Read against the chapter's words.
func holdRead(t *testing.T, b string) (api.Script, api.Errno) {
	t.Helper()
	h := hold(b)
	s, err := run.Read(h.text)
	want, ok := trueRead(b)
	wantErr := api.OK
	if !ok {
		want, wantErr = api.Script{}, api.ErrScript
	}
	if !sameScript(s, want) || err != wantErr {
		t.Fatalf("Read(%q): %+v, %v, not %+v, %v", b, s, err, want, wantErr)
	}
	h.unchanged(t, b)
	return s, err
}

// holdTell holds Tell against the chapter's words, and what was given against what it was.
func holdTell(t *testing.T, l []api.Note) string {
	t.Helper()
	spare := api.Note{Err: 4, Window: 7, Thresh: 11, Rate: 18, Rto: 29, Part: 47}
	given := append(slices.Clone(l), spare, spare)[:len(l)]
	kept := slices.Clone(given[:cap(given)])
	got := run.Tell(given)
	if want := reported(l); got != want {
		t.Fatalf("Tell(%+v): %q, not %q", l, got, want)
	}
	if !slices.Equal(given[:cap(given)], kept) {
		t.Fatalf("%+v was changed: %+v", kept, given[:cap(given)])
	}
	return got
}

// holdRun holds Run against the chapter's words and the layer below, twice.
func holdRun(t *testing.T, b string) (string, api.Errno) {
	t.Helper()
	h := hold(b)
	want, wantErr := trueRun(b)
	for range 2 {
		got, err := run.Run(h.text)
		if got != want || err != wantErr {
			t.Fatalf("Run(%q): %q, %v, not %q, %v", b, got, err, want, wantErr)
		}
		apart(t, got, h.around)
	}
	h.unchanged(t, b)
	return want, wantErr
}

// near are the numbers, and their neighbours, as far as there are any.
func near(l ...int) []int {
	var all []int
	for _, n := range l {
		if n > fewest {
			all = append(all, n-1)
		}
		all = append(all, n)
		if n < most {
			all = append(all, n+1)
		}
	}
	slices.Sort(all)
	return slices.Compact(all)
}

// stirred are numbers from 0 up to below n, the same ones for each seed.
func stirred(seed uint64) func(n int) int {
	s := seed*2862933555777941757 + 3037000493
	return func(n int) int {
		s = s*6364136223846793005 + 1442695040888963407
		return int((s >> 33) % uint64(n))
	}
}

// anyNumber is one of any size, with either sign.
func anyNumber(next func(n int) int) int {
	u := uint64(next(1<<30))<<34 ^ uint64(next(1<<30))<<17 ^ uint64(next(1<<30))
	return int(u) >> next(64)
}
