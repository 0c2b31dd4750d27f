package seek

import (
	"slices"
	"sync/atomic"
	"testing"
)

func TestHuntLooksAtEachDocumentOnce(t *testing.T) {
	for total := 1; total <= 30; total++ {
		for range 50 {
			var ids, want []int
			for n := range total {
				ids = append(ids, (7*n)%31)
			}
			for _, id := range slices.Sorted(slices.Values(ids)) {
				if id%3 == 0 {
					want = append(want, id)
				}
			}
			var looks [31]atomic.Int64
			h := newHunt(ids, func(id int) bool {
				looks[id].Add(1)
				return id%3 == 0
			})
			if got := h.run(); !slices.Equal(got, want) {
				t.Fatalf("of %v found %v, want %v", ids, got, want)
			}
			if h.looked.Load() != int64(total) {
				t.Fatalf("counted %d of %d", h.looked.Load(), total)
			}
			for _, id := range ids {
				if looks[id].Load() != 1 {
					t.Fatalf("looked at %d %d times", id, looks[id].Load())
				}
			}
		}
	}
}

func TestHuntEndsAllItStarted(t *testing.T) {
	h := newHunt([]int{1, 2, 3}, func(int) bool { return true })
	h.run()
	if _, open := <-h.todo; open {
		t.Error("documents are left")
	}
	if _, open := <-h.verdicts; open {
		t.Error("verdicts are left")
	}
	if _, open := <-h.settled; open {
		t.Error("not settled")
	}
	// Whoever looks when it is settled waits for nobody.
	late := newHunt([]int{1, 2}, func(int) bool { return true })
	close(late.settled)
	late.work()
	if late.looked.Load() != 2 {
		t.Errorf("counted %d of 2", late.looked.Load())
	}
}

func TestFindOfNoDocuments(t *testing.T) {
	if got := find(nil, func(int) bool { return true }); got != nil {
		t.Errorf("found %v", got)
	}
}
