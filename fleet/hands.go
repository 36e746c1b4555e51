package fleet

import (
	"sync"
	"sync/atomic"

	"sawtooth/safe"
)

const mostHands = 16

// giver gives out the places of so many scripts, each to one hand alone, and in order: all ahead of one that was given out were so too.
type giver struct {
	many  int
	next  atomic.Int64
	ended sync.Once
}

// share has each place that is given out done by one of the hands, all of which have gone when it answers.
func (g *giver) share(hands int, do func(i int)) {
	var all sync.WaitGroup
	for range safe.Clamp(hands, 1, mostHands) {
		all.Add(1)
		go func() {
			defer all.Done()
			for i := g.take(); i < g.many; i = g.take() {
				do(i)
			}
		}()
	}
	all.Wait()
}

func (g *giver) take() int {
	return int(g.next.Add(1) - 1)
}

// end gives out nothing more: behind a fault that was found nobody needs to seek the first one. Whoever finds another one then has nothing to end.
func (g *giver) end() {
	g.ended.Do(func() {
		g.next.Store(int64(g.many))
	})
}
