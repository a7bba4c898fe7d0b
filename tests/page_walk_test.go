package tests

import (
	"slices"
	"testing"

	"loop.example/g00729/impl"
)

// checkBack takes a block that got tells out again, and wants the pages as they were ahead of it.
func checkBack(t *testing.T, name string, before []impl.Page, got impl.PagesResult, size int64) {
	t.Helper()
	old, now := holdingsOf(before), holdingsOf(got.Pages)
	for at, held := range now {
		isNew := int64(at) >= got.At && int64(at) < got.At+size
		if isNew && (old[at].size != 0 || held != holding{start: got.At, size: size}) || !isNew && held != old[at] {
			t.Errorf("%s: the place %d was of %v, and is of %v", name, at, old[at], held)
		}
	}
	checkPages(t, name+", dropped again", impl.DropBlock(got.Pages, got.At), before, got.At)
}

func TestP5WhatIsTakenAndDroppedAgainLeavesThePages(t *testing.T) {
	taken := 0
	for _, list := range append(rightLists(2), mixedPages(), freePages(impl.MaxPages)) {
		for class := range slotCounts {
			if got := impl.FindSlot(list, int64(class)); got.Code == impl.OK {
				checkBack(t, numbered("a slot of the class", int64(class)), list, got, slotSizes[class])
				taken++
			}
		}
		for n := int64(1); n <= impl.MaxRun; n++ {
			for at := range int64(len(list)) {
				if got := impl.TakeRun(list, at, n); got.Code == impl.OK {
					checkBack(t, numbered("a run of", n), list, got, n*impl.PageWords)
					taken++
				}
			}
		}
		if t.Failed() {
			t.Fatalf("the pages are %v", list)
		}
	}
	if taken < 1000 {
		t.Error("just so many blocks were taken:", taken)
	}
}

func TestP5WhatIsDroppedIsTakenAgain(t *testing.T) {
	full := slices.Concat([]impl.Page{slabWithout(0), slabWithout(1), slabWithout(2), slabWithout(3)}, runOf(1), runOf(2), runOf(3), runOf(4))
	for at, held := range holdingsOf(full) {
		if held.start != int64(at) {
			continue
		}
		dropped := impl.DropBlock(full, held.start)
		if class := slices.Index(slotSizes, held.size); class >= 0 {
			checkPages(t, "the one slot that is not used", impl.FindSlot(dropped.Pages, int64(class)), full, held.start)
			continue
		}
		n := held.size / impl.PageWords
		found := impl.FindRun(dropped.Pages, n)
		checkPages(t, "the one run that is free", impl.TakeRun(dropped.Pages, found.Value, n), full, held.start)
	}
}

// walker takes and drops blocks by numbers that a short rule tells, and keeps of each place the block that it thinks is there.
type walker struct {
	list   []impl.Page
	places []holding
	number uint32
}

func newWalker(pages int, number uint32) *walker {
	return &walker{list: freePages(pages), places: make([]holding, pages*impl.PageWords), number: number}
}

func (w *walker) next(below int) int {
	w.number = w.number*1664525 + 1013904223
	return int(w.number>>8) % below
}

// lay wants nothing at the places of a new block, and puts it there.
func (w *walker) lay(t *testing.T, got impl.PagesResult, size int64) {
	t.Helper()
	if got.Code == impl.ErrQuota {
		return
	}
	if got.Code != impl.OK {
		t.Fatalf("code %d", got.Code)
	}
	for at := got.At; at < got.At+size; at++ {
		if w.places[at].size != 0 {
			t.Fatalf("the place %d is of %v already", at, w.places[at])
		}
		w.places[at] = holding{start: got.At, size: size}
	}
	w.list = got.Pages
}

func (w *walker) drop(t *testing.T, at int64) {
	t.Helper()
	held := w.places[at]
	checkPlace(t, w.list, at, held)
	if held.size == 0 {
		return
	}
	got := impl.DropBlock(w.list, held.start)
	if got.Code != impl.OK || got.At != held.start {
		t.Fatalf("DropBlock %d: code %d, place %d", held.start, got.Code, got.At)
	}
	for at := held.start; at < held.start+held.size; at++ {
		w.places[at] = holding{}
	}
	w.list = got.Pages
}

func (w *walker) step(t *testing.T) {
	t.Helper()
	switch kind := w.next(9); {
	case kind < 3:
		class := w.next(4)
		w.lay(t, impl.FindSlot(w.list, int64(class)), slotSizes[class])
	case kind == 3:
		n := int64(1 + w.next(impl.MaxRun))
		found := impl.FindRun(w.list, n)
		if found.Code == impl.OK {
			w.lay(t, impl.TakeRun(w.list, found.Value, n), n*impl.PageWords)
		} else {
			checkNoValue(t, "FindRun", found, impl.ErrQuota)
		}
	default:
		w.drop(t, int64(w.next(len(w.places))))
	}
}

// check wants each place as the walker thinks it is, and just the pages used in which it thinks something is.
func (w *walker) check(t *testing.T) {
	t.Helper()
	if code := impl.PagesFault(w.list); code != impl.OK {
		t.Fatalf("fault %d of %v", code, w.list)
	}
	if !slices.Equal(holdingsOf(w.list), w.places) {
		t.Fatalf("the blocks are not those that were taken: %v", w.list)
	}
	used := int64(0)
	for page := range slices.Chunk(w.places, impl.PageWords) {
		if slices.ContainsFunc(page, func(held holding) bool { return held.size != 0 }) {
			used++
		}
	}
	checkValue(t, "UsedIn", impl.UsedIn(w.list), used)
}

func TestP5ManyBlocksAreTakenAndDropped(t *testing.T) {
	for _, pages := range []int{1, 2, 5, 13, impl.MaxPages} {
		for number := range uint32(4) {
			w := newWalker(pages, number)
			for range 1500 {
				w.step(t)
				w.check(t)
			}
			for at := range w.places {
				w.drop(t, int64(at))
			}
			checkPages(t, "all blocks are dropped", impl.PagesResult{Pages: w.list}, freePages(pages), 0)
		}
	}
}
