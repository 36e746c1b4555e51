package fleet

import "testing"

// P23.4: each place is given out once, however many hands there are.
func TestShare(t *testing.T) {
	for _, many := range []int{0, 1, 2, 15, 16, 17, 1000} {
		for hands := range 18 {
			done := make([]int, many)
			g := giver{many: many}
			g.share(hands, func(i int) { done[i]++ })
			for i, n := range done {
				if n != 1 {
					t.Fatalf("place %d of %d by %d: %d times", i, many, hands, n)
				}
			}
		}
	}
}

// P23.3: behind the end nothing more is given out, and what was given out by then were the first places; also if it is ended more than once.
func TestEnd(t *testing.T) {
	const many = 1000
	for hands := 1; hands <= 16; hands++ {
		for _, last := range []int{0, 1, 20, many - 1} {
			done := make([]int, many)
			g := giver{many: many}
			g.share(hands, func(i int) {
				done[i]++
				if i >= last {
					g.end()
				}
			})
			given := 0
			for given < many && done[given] == 1 {
				given++
			}
			for i := given; i < many; i++ {
				if done[i] != 0 {
					t.Fatalf("by %d, ended at %d: place %d %d times, behind %d places", hands, last, i, done[i], given)
				}
			}
			if given <= last || hands == 1 && given != last+1 {
				t.Fatalf("by %d, ended at %d: %d places", hands, last, given)
			}
		}
	}
}
