package run_test

import (
	"testing"

	"sawtooth/api"
	"sawtooth/run"
)

// examples are those of the whole, from bytes to bytes, worked out beforehand: a line for each raw event, and for each note.
func examples() []struct{ name, script, report string } {
	return []struct{ name, script, report string }{
		{
			"5 of 10 sent, and told of",
			usualBytes + "\x04" +
				"\x08\x0c\x00\x90\x4e\x00" +
				"\x08\x02\xc0\x9a\x0c\x90\x4e\x00",
			"\x04" +
				"\x00\x80\x80\x50\x80\x80\x80\x80\x80\x04\x80\xb5\x18\x80\x89\x7a\x00" +
				"\x00\x80\x80\x78\x80\x80\x80\x80\x80\x04\xc0\xcf\x24\x80\x89\x7a\x00",
		},
		{
			"a loss of one of ten",
			usualBytes + "\x10" +
				"\x08\x0c\x00\xa0\x9c\x01\x00" +
				"\x08\x04\xc0\x9a\x0c\xd0\x0f\x00" +
				"\x08\x04\xe0\xb6\x0d\xd0\x0f\x00" +
				"\x08\x06\x80\xd3\x0e\x00\x00" +
				"\x08\x02\xc0\x8b\x11\xb0\x6d\x00" +
				"\x08\x0a\xe0\xa7\x12\x00\x00" +
				"\x08\x02\xe0\xa7\x12\xd0\x0f\x00" +
				"\x08\x06\x80\xc4\x13\x00\x00",
			"\x10" +
				"\x00\x80\x80\x50\x80\x80\x80\x80\x80\x04\x80\xb5\x18\x80\x89\x7a\x00" +
				"\x00\x80\x80\x38\x80\x80\x38\x98\xd7\x0a\x80\x89\x7a\x06" +
				"\x00\x80\x80\x38\x80\x80\x38\x98\xd7\x0a\x80\x89\x7a\x06" +
				"\x00\x80\x80\x38\x80\x80\x38\x98\xd7\x0a\x80\x89\x7a\x06" +
				"\x00\x80\x80\x38\x80\x80\x38\x98\xd7\x0a\x80\x89\x7a\x06" +
				"\x00\x80\x80\x38\x80\x80\x38\x98\xd7\x0a\x80\x89\x7a\x06" +
				"\x00\x80\x80\x38\x80\x80\x38\x98\xd7\x0a\x80\x89\x7a\x04" +
				"\x00\xcc\x99\x27\xcc\x99\x27\x82\xbd\x07\x80\x89\x7a\x04",
		},
		{
			"a timeout",
			usualBytes + "\x0c" +
				"\x08\x0c\x00\xa0\x9c\x01\x00" +
				"\x08\x08\x80\x89\x7a\x00\x00" +
				"\x08\x0c\x80\x89\x7a\xa0\x1f\x00" +
				"\x08\x02\xc0\xa3\x86\x01\xa0\x1f\x00" +
				"\x08\x0c\xc0\xa3\x86\x01\xc0\x3e\x00" +
				"\x08\x02\x80\xbe\x92\x01\xc0\x3e\x00",
			"\x0c" +
				"\x00\x80\x80\x50\x80\x80\x80\x80\x80\x04\x80\xb5\x18\x80\x89\x7a\x00" +
				"\x00\x80\x80\x10\x80\x80\x38\x80\xf1\x04\x80\x92\xf4\x01\x00" +
				"\x00\x80\x80\x10\x80\x80\x38\x80\xf1\x04\x80\x92\xf4\x01\x00" +
				"\x00\x80\x80\x20\x80\x80\x38\x80\xe2\x09\x80\x89\x7a\x00" +
				"\x00\x80\x80\x20\x80\x80\x38\x80\xe2\x09\x80\x89\x7a\x00" +
				"\x00\x80\x80\x40\x80\x80\x38\xc0\x9a\x0c\x80\x89\x7a\x04",
		},
		{
			"more sent than the window lets",
			usualBytes + "\x04" +
				"\x08\x0c\x00\xa2\x9c\x01\x00" +
				"\x08\x0c\x00\xa0\x9c\x01\x00",
			"\x04" +
				"\x96\x03\x80\x80\x50\x80\x80\x80\x80\x80\x04\x80\xb5\x18\x80\x89\x7a\x00" +
				"\x00\x80\x80\x50\x80\x80\x80\x80\x80\x04\x80\xb5\x18\x80\x89\x7a\x00",
		},
		{
			"more told of than was sent",
			usualBytes + "\x06" +
				"\x08\x0c\x00\xa0\x9c\x01\x00" +
				"\x08\x02\x00\xa2\x9c\x01\x00" +
				"\x08\x02\xc0\x9a\x0c\xa0\x9c\x01\x00",
			"\x06" +
				"\x00\x80\x80\x50\x80\x80\x80\x80\x80\x04\x80\xb5\x18\x80\x89\x7a\x00" +
				"\x94\x03\x80\x80\x50\x80\x80\x80\x80\x80\x04\x80\xb5\x18\x80\x89\x7a\x00" +
				"\x00\x80\x80\x90\x01\x80\x80\x80\x80\x80\x04\x80\xf9\x2b\x80\x89\x7a\x00",
		},
		{
			"time that goes back",
			usualBytes + "\x06" +
				"\x08\x0e\x0a\x00\x00" +
				"\x08\x0e\x08\x00\x00" +
				"\x08\x0e\x0a\x00\x00",
			"\x06" +
				"\x00\x80\x80\x50\x80\x80\x80\x80\x80\x04\x80\xb5\x18\x80\x89\x7a\x00" +
				"\x64\x80\x80\x50\x80\x80\x80\x80\x80\x04\x80\xb5\x18\x80\x89\x7a\x00" +
				"\x00\x80\x80\x50\x80\x80\x80\x80\x80\x04\x80\xb5\x18\x80\x89\x7a\x00",
		},
		{
			"a pause as long as the timeout",
			usualBytes + "\x06" +
				"\x08\x0c\x00\xa0\x9c\x01\x00" +
				"\x08\x02\xc0\x9a\x0c\xa0\x9c\x01\xc0\x9a\x0c" +
				"\x08\x0c\xc0\xcf\x24\xd0\x0f\x00",
			"\x06" +
				"\x00\x80\x80\x50\x80\x80\x80\x80\x80\x04\x80\xb5\x18\x80\x89\x7a\x00" +
				"\x00\x80\x80\x90\x01\x80\x80\x80\x80\x80\x04\x80\xf9\x2b\xc0\xcf\x24\x00" +
				"\x00\x80\x80\x90\x01\x80\x80\x80\x80\x80\x04\x80\xf9\x2b\xc0\xcf\x24\x00",
		},
		{
			"a pause longer than the timeout",
			usualBytes + "\x06" +
				"\x08\x0c\x00\xa0\x9c\x01\x00" +
				"\x08\x02\xc0\x9a\x0c\xa0\x9c\x01\xc0\x9a\x0c" +
				"\x08\x0c\xc2\xcf\x24\xd0\x0f\x00",
			"\x06" +
				"\x00\x80\x80\x50\x80\x80\x80\x80\x80\x04\x80\xb5\x18\x80\x89\x7a\x00" +
				"\x00\x80\x80\x90\x01\x80\x80\x80\x80\x80\x04\x80\xf9\x2b\xc0\xcf\x24\x00" +
				"\x00\x80\x80\x50\x80\x80\x80\x80\x80\x04\x80\xb5\x18\xc0\xcf\x24\x00",
		},
		{
			"a pause longer than the timeout, with less than the first window",
			usualBytes + "\x0a" +
				"\x08\x0c\x00\xa0\x9c\x01\x00" +
				"\x08\x04\x00\xd0\x0f\x00" +
				"\x08\x0a\x00\x00\x00" +
				"\x08\x02\xc0\x9a\x0c\xd0\x8c\x01\x00" +
				"\x08\x0c\x82\x89\x7a\xd0\x0f\x00",
			"\x0a" +
				"\x00\x80\x80\x50\x80\x80\x80\x80\x80\x04\x80\xb5\x18\x80\x89\x7a\x00" +
				"\x00\x80\x80\x38\x80\x80\x38\x98\xd7\x0a\x80\x89\x7a\x06" +
				"\x00\x80\x80\x38\x80\x80\x38\x98\xd7\x0a\x80\x89\x7a\x06" +
				"\x00\x80\x80\x38\x80\x80\x38\x98\xd7\x0a\x80\x89\x7a\x04" +
				"\x00\x80\x80\x38\x80\x80\x38\x98\xd7\x0a\x80\x89\x7a\x04",
		},
	}
}

// P24.3: the document's examples 1 to 3, and 6 to 9.
func TestExamples(t *testing.T) {
	for _, e := range examples() {
		t.Run(e.name, func(t *testing.T) {
			if report, err := holdRun(t, e.script); report != e.report || err != api.OK {
				t.Errorf("%q, %v, not %q", report, err, e.report)
			}
		})
	}
}

// notesOf are the notes that a report tells.
func notesOf(t *testing.T, b string) []api.Note {
	t.Helper()
	report, err := holdRun(t, b)
	l, ok := trueNumbers(report)
	if err != api.OK || !ok || len(l) == 0 || len(l) != 1+6*l[0] {
		t.Fatalf("Run(%q): %q, %v", b, report, err)
	}
	var notes []api.Note
	for l = l[1:]; len(l) > 0; l = l[6:] {
		notes = append(notes, noteOf(l))
	}
	return notes
}

// slowRounds are rounds of all that the window lets, each segment of which is told of by itself, with windows, ends of slow start, and phases, worked out beforehand: of the second round the first time is still one of the first, and seven more that are an eighth longer are not yet enough.
func slowRounds() (api.Script, []api.Note) {
	c := usual()
	c.First, c.Burst = 12, 1000
	s := api.Script{Config: c}
	note, at := api.Note{Window: 12 * one, Thresh: greatest, Part: api.PSlow}, 0
	var want []api.Note
	add := func(kind, bytes, rtt int) {
		at++
		s.Raw, want = append(s.Raw, []int{kind, at, bytes, rtt}), append(want, note)
	}
	for _, r := range []struct{ segs, first, rtt, swift int }{{12, 80000, 80000, 12}, {24, 80000, 90000, 8}, {36, 90000, 90000, 0}, {45, 90000, 90000, 0}} {
		add(send, r.segs*1000, 0)
		for i := range r.segs {
			rtt := r.rtt
			if i == 0 {
				rtt = r.first
			}
			if i < r.swift {
				note.Window += one
			} else {
				note.Window, note.Part = note.Window+one/4, api.PGentle
			}
			add(ack, 1000, rtt)
		}
	}
	want[len(want)-1] = api.Note{Window: 56 * one, Thresh: 56 * one, Part: api.PCalm}
	return s, want
}

// P24.3: the document's example 4: from the eighth time on that is an eighth longer it is a quarter as fast, and five rounds more behind it is over.
func TestSlowEnds(t *testing.T) {
	s, want := slowRounds()
	for i, n := range notesOf(t, run.Write(s)) {
		n.Rate, n.Rto = 0, 0
		if n != want[i] {
			t.Errorf("note %d, of %v: %+v, not %+v", i, s.Raw[i], n, want[i])
		}
	}
}

// P24.3: the document's example 5: a loss leaves 611669 parts of 873813, which are four segments more; 83998 bytes, which are 611654 parts, told of 2154434 millionths of a second later, make up 611654 of 611669 parts of these four, and of one part less just ahead of that.
func TestLaw(t *testing.T) {
	c := api.Config{Seg: 9000, Max: 1000, First: 10, Grain: 1000, Least: 200000, Great: 60000000, Burst: 1000}
	for _, l := range []struct{ at, window int }{{2154433, 873805}, {2154434, 873806}} {
		s := api.Script{Config: c, Raw: [][]int{
			{send, 0, 90000, 0}, {ack, 0, 30000, 0}, {loss, 0, 1000, 0}, {loss, 0, 58999, 0}, {ack, 0, 1, 0}, {send, 0, 83999, 0}, {ack, l.at, 83998, 0},
		}}
		notes := notesOf(t, run.Write(s))
		for i, want := range []int{655360, 873813, 611669, 611669, 611669, 611669, l.window} {
			if notes[i].Window != want || notes[i].Err != api.OK {
				t.Errorf("at %d, note %d: %+v, not %d", l.at, i, notes[i], want)
			}
		}
	}
}

// P24.3, P24.4: the document's example 10: bytes of no script.
func TestNoScript(t *testing.T) {
	for _, b := range []string{"", "\x00", "\x80", "script", "\xff\xff\xff\xff\xff\xff\xff\xff\xff\xff\xff", "{}", "\n", usualBytes, usualBytes + "\x02", usualBytes + "\x00\n"} {
		refuseRead(t, b)
	}
}

// P24.3: without a loss the window never falls, and comes to the greatest one, from bytes to bytes; what is too much to be sent, or told of, is refused meanwhile.
func TestGrows(t *testing.T) {
	for _, segs := range []int{10, 24, 100} {
		s := api.Script{Config: usual()}
		s.Config.Max, s.Config.Burst = segs, 1000
		for i := range 400 {
			for _, bytes := range []int{50000, 25000, 12000, 6000, 3000, 1000} {
				s.Raw = append(s.Raw, []int{send, i * 50000, bytes, 0})
			}
			for _, bytes := range []int{50000, 25000, 12000, 6000, 3000, 1000} {
				s.Raw = append(s.Raw, []int{ack, i*50000 + 40000, bytes, 40000})
			}
		}
		window, refused := 10*one, 0
		for i, n := range notesOf(t, run.Write(s)) {
			if n.Window < window || n.Window > segs*one {
				t.Fatalf("note %d: %d behind %d", i, n.Window, window)
			}
			window = n.Window
			if n.Err != api.OK {
				refused++
			}
		}
		if window != segs*one || refused == 0 {
			t.Errorf("%d in the end, not %d; %d refused", window, segs*one, refused)
		}
	}
}
