package run

import "sawtooth/api"

// taker takes numbers from the bytes that are left, and panics with a refusal where they are none's.
type taker struct{ left string }

type refusal struct{ why api.Errno }

// tried catches a refusal alone: anything else is none of the bytes'.
func tried[T any](take func() T) (x T, err api.Errno) {
	defer func() {
		if r := recover(); r != nil {
			err = r.(refusal).why
		}
	}()
	return take(), api.OK
}

func (t *taker) refuse() {
	panic(refusal{api.ErrScript})
}

func (t *taker) digit() byte {
	if t.left == "" {
		t.refuse()
	}
	d := t.left[0]
	t.left = t.left[1:]
	return d
}

// number ends at the tenth digit at the latest: of 64 bits it has the last one, and so no digit may follow it.
func (t *taker) number() int {
	var u uint64
	for place := 0; ; place += 7 {
		d := t.digit()
		if d == 0 && place > 0 || d > 1 && place == 63 {
			t.refuse()
		}
		u |= uint64(d%base) << place
		if d < base {
			return signed(u)
		}
	}
}

// count makes room for nothing beforehand: there may be far fewer bytes behind it than it says.
func (t *taker) count() int {
	n := t.number()
	if n < 0 {
		t.refuse()
	}
	return n
}

func (t *taker) numbers() []int {
	var l []int
	for range t.count() {
		l = append(l, t.number())
	}
	return l
}

func (t *taker) raw() [][]int {
	var l [][]int
	for range t.count() {
		l = append(l, t.numbers())
	}
	return l
}

func (t *taker) config() api.Config {
	return api.Config{
		Seg:   t.number(),
		Max:   t.number(),
		First: t.number(),
		Grain: t.number(),
		Least: t.number(),
		Great: t.number(),
		Burst: t.number(),
	}
}

func (t *taker) script() api.Script {
	s := api.Script{Config: t.config(), Raw: t.raw()}
	if t.left != "" {
		t.refuse()
	}
	return s
}
