package seek

import (
	"slices"
	"sync"
	"sync/atomic"
)

const hunters = 4 // goroutines that look at documents

type verdict struct {
	id    int
	holds bool
}

// hunt puts one question to many documents at the same time.
type hunt struct {
	holds    func(id int) bool
	total    int64
	looked   atomic.Int64
	todo     chan int
	verdicts chan verdict
	settled  chan struct{} // closed when no verdict is waited for any more
}

// find answers those of the documents for which it holds, rising.
func find(ids []int, holds func(id int) bool) []int {
	if len(ids) == 0 {
		return nil
	}
	return newHunt(ids, holds).run()
}

func newHunt(ids []int, holds func(id int) bool) *hunt {
	h := &hunt{
		holds:    holds,
		total:    int64(len(ids)),
		todo:     make(chan int, len(ids)),
		verdicts: make(chan verdict),
		settled:  make(chan struct{}),
	}
	defer close(h.todo)
	for _, id := range ids {
		h.todo <- id
	}
	return h
}

func (h *hunt) run() []int {
	var all sync.WaitGroup
	defer all.Wait()
	defer close(h.settled)
	for range hunters {
		all.Go(h.work)
	}
	var found []int
	for v := range h.verdicts {
		if v.holds {
			found = append(found, v.id)
		}
	}
	// The verdicts came in whatever order the goroutines ran.
	slices.Sort(found)
	return found
}

func (h *hunt) work() {
	for id := range h.todo {
		h.look(id)
	}
}

func (h *hunt) look(id int) {
	defer h.count()
	v := verdict{id, h.holds(id)}
	select {
	case h.verdicts <- v:
	case <-h.settled:
	}
}

// count is called behind each verdict, so the last one has been told when it
// closes them.
func (h *hunt) count() {
	if h.looked.Add(1) == h.total {
		close(h.verdicts)
	}
}
