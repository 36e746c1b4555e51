package fleet

import (
	"math"
	"testing"

	"sawtooth/api"
)

// P23.2: bytes are added without going beyond 2^63 - 1, which no scripts come to that a test could play; and all else is added, each to its own.
func TestSum(t *testing.T) {
	const most = math.MaxInt64
	for _, c := range []struct{ a, b, want int }{
		{0, 0, 0}, {1, 2, 3}, {most, 0, most}, {most - 1, 1, most}, {most, 1, most}, {most - 1, 2, most}, {most, most, most},
		{most / 2, most / 2, most - 1}, {most/2 + 1, most / 2, most}, {most/2 + 1, most/2 + 1, most},
	} {
		a := api.Total{Scripts: 1, Wrong: 20, Events: 300, Refused: 4000, Told: c.a}
		b := api.Total{Scripts: 5, Wrong: 60, Events: 700, Refused: 8000, Told: c.b}
		want := api.Total{Scripts: 6, Wrong: 80, Events: 1000, Refused: 12000, Told: c.want}
		if sum(a, b) != want || sum(b, a) != want {
			t.Errorf("sum of %+v and %+v: %+v, and %+v, not %+v", a, b, sum(a, b), sum(b, a), want)
		}
	}
}
