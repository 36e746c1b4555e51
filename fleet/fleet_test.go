package fleet_test

import (
	"math"
	"reflect"
	"slices"
	"testing"

	"sawtooth/api"
	"sawtooth/fleet"
	"sawtooth/replay"
)

const (
	one      = 65536
	maxSegs  = 1048576
	greatest = 68719476736
	maxTime  = 1099511627776
	maxRtt   = 1073741824
	maxBytes = 1073741824
	most     = math.MaxInt64
	fewest   = math.MinInt64
)

const (
	ack = 1 + iota
	loss
	ecn
	timeout
	idle
	send
	tick
)

// usual is a configuration that may be: segments of 1000 bytes, which make bytes easy to read.
func usual() api.Config {
	return api.Config{Seg: 1000, Max: 1000, First: 10, Grain: 1000, Least: 200000, Great: 60000000, Burst: 10}
}

func scriptOf(raw ...[]int) api.Script {
	return api.Script{Config: usual(), Raw: raw}
}

// clean is a script none of whose five raw events is refused, and in which 5000 bytes are told of.
func clean() api.Script {
	return scriptOf([]int{send, 0, 5000, 0}, []int{ack, 50000, 5000, 0}, []int{send, 50000, 7000, 0}, []int{ecn, 60000, 0, 0}, []int{loss, 70000, 7000, 0})
}

// cleanNotes are what is to be told of clean: five segments more for what is told of, half of a window being used, 7 tenths of that for a mark, behind which it recovers, and 7 tenths once more for a loss of all that is out, behind which it does not; each window in a tenth of a second, twice as fast in slow start, and else by a quarter.
func cleanNotes() []api.Note {
	begun := api.Note{Window: 10 * one, Thresh: greatest, Rate: 200000, Rto: 1000000, Part: api.PSlow}
	more := api.Note{Window: 15 * one, Thresh: greatest, Rate: 300000, Rto: 1000000, Part: api.PSlow}
	recovers := api.Note{Window: 688128, Thresh: 688128, Rate: 131250, Rto: 1000000, Part: api.PRecover}
	calm := api.Note{Window: 481689, Thresh: 481689, Rate: 91874, Rto: 1000000, Part: api.PCalm}
	return []api.Note{begun, more, more, recovers, calm}
}

// spoilt is clean with four raw events more that are refused, and one behind it.
func spoilt() api.Script {
	s := clean()
	s.Raw = slices.Insert(s.Raw, 2, []int{8, 50000, 0, 0}, []int{tick, 49999, 0, 0}, []int{ack, 50000, 1, 0}, nil)
	s.Raw = append(s.Raw, []int{send, 70000, 7350, 0})
	return s
}

func spoiltNotes() []api.Note {
	l := cleanNotes()
	refused := func(n api.Note, err api.Errno) api.Note {
		n.Err = err
		return n
	}
	more, calm := l[1], l[4]
	l = slices.Insert(l, 2, refused(more, api.ErrKind), refused(more, api.ErrBack), refused(more, api.ErrAck), refused(more, api.ErrField))
	return append(l, refused(calm, api.ErrWindow))
}

// wrong is a script that would be clean, but for its configuration.
func wrong() api.Script {
	s := clean()
	s.Config.Burst = 0
	return s
}

// someHands are far below how many there may be, at the bounds and beside them, and far above.
func someHands() []int {
	return []int{fewest, fewest + 1, -1 << 32, -16, -1, 0, 1, 2, 3, 8, 15, 16, 17, 1 << 16, 1 << 32, most - 1, most}
}

// told is all that is told of scripts.
type told struct {
	notes [][]api.Note
	total api.Total
	first int
	has   bool
}

// oneByOne is what is to be told, by the layer below, of one script behind the other.
func oneByOne(l []api.Script) told {
	var w told
	for i, s := range l {
		notes, err := replay.Play(s.Config, s.Raw)
		last, _ := replay.Last(s.Config, s.Raw)
		w.notes = append(w.notes, notes)
		w.total.Scripts++
		if err != api.OK {
			w.total.Wrong++
		} else {
			w.total.Events += len(s.Raw)
		}
		refused := 0
		for _, note := range notes {
			if note.Err != api.OK {
				refused++
			}
		}
		w.total.Refused += refused
		w.total.Told += min(last.Flight.Told, most-w.total.Told)
		if !w.has && (err != api.OK || refused > 0) {
			w.first, w.has = i, true
		}
	}
	return w
}

func sameNotes(a, b [][]api.Note) bool {
	return slices.EqualFunc(a, b, func(a, b []api.Note) bool { return slices.Equal(a, b) })
}

// roomy are the same scripts in memory of their own, all with spare room in which something stands.
func roomy(l []api.Script) []api.Script {
	all := make([]api.Script, 0, len(l)+2)
	for _, s := range l {
		raw := make([][]int, 0, len(s.Raw)+2)
		for _, r := range s.Raw {
			raw = append(raw, append(slices.Clone(r), 4, 7, 11)[:len(r)])
		}
		raw = append(raw, []int{tick, 0, 0, 0}, []int{tick, 1, 0, 0})[:len(s.Raw)]
		all = append(all, api.Script{Config: s.Config, Raw: raw})
	}
	return append(all, spoilt(), wrong())[:len(l)]
}

// whole is a copy of scripts, with all that stands in their spare room.
func whole(l []api.Script) []api.Script {
	all := slices.Clone(l[:cap(l)])
	for i, s := range all {
		raw := slices.Clone(s.Raw[:cap(s.Raw)])
		for j, r := range raw {
			raw[j] = slices.Clone(r[:cap(r)])
		}
		all[i].Raw = raw
	}
	return all
}

// hold holds all three calls against w, by so many hands.
func hold(t *testing.T, l []api.Script, hands int, w told) {
	t.Helper()
	if notes := fleet.Play(l, hands); !sameNotes(notes, w.notes) {
		t.Fatalf("Play of %d scripts by %d: %v, not %v", len(l), hands, notes, w.notes)
	}
	if total := fleet.Count(l, hands); total != w.total {
		t.Fatalf("Count of %d scripts by %d: %+v, not %+v", len(l), hands, total, w.total)
	}
	if first, has := fleet.First(l, hands); first != w.first || has != w.has {
		t.Fatalf("First of %d scripts by %d: %d, %v, not %d, %v", len(l), hands, first, has, w.first, w.has)
	}
}

// holdAll holds them by all of someHands against the layer below, and what was given against what it was.
func holdAll(t *testing.T, l []api.Script) told {
	t.Helper()
	w := oneByOne(l)
	given := roomy(l)
	kept := whole(given)
	for _, hands := range someHands() {
		hold(t, given, hands, w)
	}
	if !reflect.DeepEqual(whole(given), kept) {
		t.Fatalf("%v was changed: %v", kept, whole(given))
	}
	return w
}

// P23.1, P23.2, P23.3: of no scripts there are no notes, nothing is counted (the chapter's example), and there is no first one.
func TestNone(t *testing.T) {
	for _, hands := range someHands() {
		for _, l := range [][]api.Script{nil, {}, make([]api.Script, 0, 5), odd()[:0]} {
			hold(t, l, hands, told{})
		}
	}
}

// P23.1, P23.2, P23.3: one script of each kind, with numbers worked out beforehand.
func TestOne(t *testing.T) {
	begun := cleanNotes()[0]
	unknown := begun
	unknown.Err = api.ErrKind
	for _, c := range []struct {
		name   string
		script api.Script
		want   told
	}{
		{"nothing to play", scriptOf(), told{notes: [][]api.Note{nil}, total: api.Total{Scripts: 1}}},
		{"a raw event", scriptOf([]int{tick, 0, 0, 0}), told{notes: [][]api.Note{{begun}}, total: api.Total{Scripts: 1, Events: 1}}},
		{"one of no kind", scriptOf([]int{8, 0, 0, 0}), told{notes: [][]api.Note{{unknown}}, total: api.Total{Scripts: 1, Events: 1, Refused: 1}, has: true}},
		{"clean", clean(), told{notes: [][]api.Note{cleanNotes()}, total: api.Total{Scripts: 1, Events: 5, Told: 5000}}},
		{"spoilt", spoilt(), told{notes: [][]api.Note{spoiltNotes()}, total: api.Total{Scripts: 1, Events: 10, Refused: 5, Told: 5000}, has: true}},
		{"wrong", wrong(), told{notes: [][]api.Note{nil}, total: api.Total{Scripts: 1, Wrong: 1}, has: true}},
		{"wrong, and spoilt", api.Script{Raw: spoilt().Raw}, told{notes: [][]api.Note{nil}, total: api.Total{Scripts: 1, Wrong: 1}, has: true}},
		{"empty", api.Script{}, told{notes: [][]api.Note{nil}, total: api.Total{Scripts: 1, Wrong: 1}, has: true}},
	} {
		t.Run(c.name, func(t *testing.T) {
			w := holdAll(t, []api.Script{c.script})
			if !sameNotes(w.notes, c.want.notes) || w.total != c.want.total || w.first != c.want.first || w.has != c.want.has {
				t.Errorf("%+v, not %+v", w, c.want)
			}
		})
	}
}

// P23.1, P23.2, P23.3: a few scripts of all kinds, with numbers worked out beforehand: in order, and of each what is its own.
func TestFew(t *testing.T) {
	l := []api.Script{clean(), scriptOf(), spoilt(), wrong(), clean(), {}, spoilt(), scriptOf([]int{tick, 0, 0, 0})}
	want := told{
		notes: [][]api.Note{cleanNotes(), nil, spoiltNotes(), nil, cleanNotes(), nil, spoiltNotes(), cleanNotes()[:1]},
		total: api.Total{Scripts: 8, Wrong: 2, Events: 31, Refused: 10, Told: 20000},
		first: 2,
		has:   true,
	}
	holdAll(t, l)
	for _, hands := range someHands() {
		hold(t, l, hands, want)
	}
}

// odd are scripts that have an error, or whose configuration may not be.
func odd() []api.Script {
	s := clean()
	s.Config.First = 1001
	return []api.Script{spoilt(), wrong(), {}, s, scriptOf(nil), scriptOf([]int{0, 0, 0, 0}), scriptOf([]int{ack, 0, 1, 0}, []int{tick, 0, 0, 0})}
}

// P23.1, P23.2, P23.3: as many scripts as hands, one less, one more, and many more; all clean, one that is not in each place, and all of them such ones.
func TestPlaces(t *testing.T) {
	for _, hands := range []int{-1, 1, 2, 3, 15, 16, 17} {
		for _, n := range []int{max(hands, 1) - 1, max(hands, 1), max(hands, 1) + 1, 30} {
			l := slices.Repeat([]api.Script{clean()}, n)
			hold(t, l, hands, oneByOne(l))
			for i := range n {
				for _, s := range odd() {
					l[i] = s
					w := oneByOne(l)
					if !w.has || w.first != i {
						t.Fatalf("%+v in place %d: %d, %v", s, i, w.first, w.has)
					}
					hold(t, l, hands, w)
				}
				l[i] = clean()
			}
			for _, s := range odd() {
				l := slices.Repeat([]api.Script{s}, n)
				hold(t, l, hands, oneByOne(l))
			}
		}
	}
}

// P23.3: of several such ones the first, whatever each of them is: an error ahead of a configuration that may not be, and behind one.
func TestSeveral(t *testing.T) {
	for _, a := range odd() {
		for _, b := range odd() {
			for _, gap := range []int{0, 1, 20} {
				l := slices.Repeat([]api.Script{clean()}, 3)
				l = append(l, a)
				l = append(l, slices.Repeat([]api.Script{clean()}, gap)...)
				l = append(l, b, clean(), wrong(), spoilt())
				if w := holdAll(t, l); w.first != 3 || !w.has {
					t.Fatalf("%+v, %d, %+v: %d, %v", a, gap, b, w.first, w.has)
				}
			}
		}
	}
}

// P23.3: the first one by its place, not by when it is found: its error stands behind many raw events, and those behind it are found at once.
func TestLate(t *testing.T) {
	late := scriptOf(slices.Repeat([][]int{{tick, 0, 0, 0}}, 1000)...)
	late.Raw = append(late.Raw, []int{0, 0, 0, 0})
	for _, s := range odd() {
		for place := range 4 {
			l := slices.Repeat([]api.Script{clean()}, place)
			l = append(l, late)
			l = append(l, slices.Repeat([]api.Script{s}, 30)...)
			for hands := range 18 {
				for range 2 {
					if first, has := fleet.First(l, hands); first != place || !has {
						t.Fatalf("First by %d: %d, %v, not %d", hands, first, has, place)
					}
				}
			}
		}
	}
}

// P23.1, P23.2, P23.3: a raw event that is refused, in each place of a script, and with each error.
func TestRefused(t *testing.T) {
	seen := map[api.Errno]int{}
	for i := range len(clean().Raw) + 1 {
		s, _ := replay.Last(usual(), clean().Raw[:i])
		for _, raw := range refusals(s) {
			bad := clean()
			bad.Raw = slices.Insert(bad.Raw, i, raw)
			l := []api.Script{clean(), scriptOf(), bad, clean()}
			w := oneByOne(l)
			if want := (api.Total{Scripts: 4, Events: 16, Refused: 1, Told: 15000}); w.total != want || w.first != 2 || !w.has {
				t.Fatalf("%v in place %d: %+v, %d, %v, not %+v", raw, i, w.total, w.first, w.has, want)
			}
			for _, hands := range []int{0, 1, 2, 16} {
				hold(t, l, hands, w)
			}
			seen[w.notes[2][i].Err]++
		}
	}
	for _, err := range []api.Errno{api.ErrBack, api.ErrTime, api.ErrKind, api.ErrField, api.ErrAck, api.ErrWindow} {
		if seen[err] == 0 {
			t.Errorf("none was refused with %v", err)
		}
	}
}

// P23.2: bytes are added, how many there may ever be of them: the most that one raw event can bring, in very many scripts.
func TestTold(t *testing.T) {
	c := api.Config{Seg: 9000, Max: maxSegs, First: maxSegs, Grain: 1, Least: 1, Great: maxTime, Burst: 1000}
	raw := [][]int{}
	for i := range 100 {
		raw = append(raw, []int{send, i * 1000000, 9000000, 0})
	}
	raw = append(raw, []int{ack, 100000000, 900000000, 0}, []int{ack, 100000000, 1, 0})
	l := slices.Repeat([]api.Script{{Config: c, Raw: raw}}, 2000)
	want := api.Total{Scripts: 2000, Events: 204000, Refused: 2000, Told: 1800000000000}
	for _, hands := range []int{1, 16} {
		if total := fleet.Count(l, hands); total != want {
			t.Errorf("Count by %d: %+v, not %+v", hands, total, want)
		}
	}
}

// P23.1: what is told is in memory of its own: no two lists of it share any, and none is the caller's, nor another answer's.
func TestMemory(t *testing.T) {
	mark := api.Note{Err: -1, Window: -1, Thresh: -1, Rate: -1, Rto: -1, Part: -1}
	l := []api.Script{clean(), clean(), spoilt(), scriptOf(), wrong(), clean()}
	l[1].Raw = l[0].Raw
	w := oneByOne(l)
	for _, hands := range []int{1, 2, 16} {
		before := fleet.Play(l, hands)
		for i := range l {
			notes := fleet.Play(l, hands)
			list := notes[i][:cap(notes[i])]
			for j := range list {
				list[j] = mark
			}
			notes[i] = w.notes[i]
			if !sameNotes(notes, w.notes) || !sameNotes(before, w.notes) {
				t.Fatalf("by %d: %v and %v, not %v, once list %d was written to", hands, notes, before, w.notes, i)
			}
			if all := fleet.Play(l, hands); !sameNotes(all, w.notes) {
				t.Fatalf("by %d, again: %v, not %v", hands, all, w.notes)
			}
		}
		given := roomy(l)
		after := fleet.Play(given, hands)
		for i, s := range given {
			for _, r := range s.Raw {
				for k := range r {
					r[k] = -1
				}
			}
			given[i] = api.Script{}
		}
		if !sameNotes(after, w.notes) {
			t.Fatalf("by %d: %v, not %v, once the scripts were written to", hands, after, w.notes)
		}
	}
}
