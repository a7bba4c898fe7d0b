package tests

import (
	"slices"
	"testing"

	"loop.example/g00729/impl"
)

func TestNumbersOfHeapsAreThoseOfTheDocument(t *testing.T) {
	if impl.MagRoom != 2 {
		t.Error("MagRoom", impl.MagRoom)
	}
}

func TestP6ANewHeapIsARightOneInWhichNothingLives(t *testing.T) {
	for pages := range int64(impl.MaxPages + 1) {
		for cpus := int64(1); cpus <= impl.MaxCpus; cpus++ {
			name := numbered(numbered("pages", pages)+", cpus", cpus)
			got := impl.NewHeap(pages, cpus)
			checkHeap(t, name, got, heapOf(int(cpus), freePages(int(pages))...))
			checkList(t, name+", LiveBlocks", impl.LiveBlocks(got.Heap), nil)
			checkValue(t, name+", HeldIn", impl.HeldIn(got.Heap), 0)
			checkValue(t, name+", UsedIn", impl.UsedIn(got.Heap.Pages), 0)
			if len(got.Heap.Pages) != int(pages) || len(got.Heap.Words) != 16*int(pages) || len(got.Heap.Mags) != 4*int(cpus) {
				t.Errorf("%s: %v", name, got)
			}
		}
	}
}

func TestP1NewHeapOfNumbersOutsideOfTheirBounds(t *testing.T) {
	manyPages, manyCpus := wrongNumbers(0, impl.MaxPages), wrongNumbers(1, impl.MaxCpus)
	for _, pages := range manyPages {
		for _, cpus := range []int64{1, 2, 0, 3, -1, greatest, least} {
			checkNoHeap(t, numbered(numbered("pages", pages)+", cpus", cpus), impl.NewHeap(pages, cpus), impl.ErrRange)
		}
	}
	for _, cpus := range manyCpus {
		for _, pages := range []int64{0, 1, 40, 41, -1, greatest, least} {
			checkNoHeap(t, numbered(numbered("pages", pages)+", cpus", cpus), impl.NewHeap(pages, cpus), impl.ErrRange)
		}
	}
}

func TestP6ADrainedHeapByItsNumbers(t *testing.T) {
	before := mixedHeap()
	got := impl.DrainHeap(before)
	wanted := copyHeap(before)
	wanted.Mags = make([][]int64, 8)
	for _, number := range []int{1, 7, 12} {
		wanted.Pages[number] = freePage()
		copy(wanted.Words[number*16:], make([]int64, 16))
	}
	wanted.Pages[2] = slabWithout(1, 0)
	wanted.Pages[11] = slabWithout(0, 5)
	wanted.Pages[13] = slabWithout(3, 0)
	wanted.Pages[17] = slabWithout(2, 0, 1)
	checkHeap(t, "drained", got, wanted)
}

func TestP6DrainingTwiceIsDrainingOnce(t *testing.T) {
	for _, h := range rightHeaps() {
		once := impl.DrainHeap(h)
		checkHeap(t, "drained twice", impl.DrainHeap(once.Heap), once.Heap)
	}
}

func TestP6AHeapWithEmptyMagazinesIsDrainedAlready(t *testing.T) {
	for _, list := range append(rightLists(1), mixedPages(), freePages(impl.MaxPages), nil) {
		for cpus := 1; cpus <= impl.MaxCpus; cpus++ {
			h := heapOf(cpus, list...)
			checkHeap(t, "drained", impl.DrainHeap(h), h)
		}
	}
}

// TestP6WordsOfADroppedBlockStayIfAnotherOneIsUsed drops each slot beside one that is used, whether that one lives or is kept by another processor.
func TestP6WordsOfADroppedBlockStayIfAnotherOneIsUsed(t *testing.T) {
	for class, slots := range slotCounts {
		for first := range slots {
			for second := range slots {
				if first == second {
					continue
				}
				h := heapOf(2, runPage(1), slabOf(class, first, second), slabWithout(class))
				dropped := impl.PageWords + slotSizes[class]*int64(first)
				beside := impl.PageWords + slotSizes[class]*int64(second)
				one := heapOf(2, runPage(1), slabOf(class, second), slabWithout(class))
				checkHeap(t, "one of two", impl.DrainHeap(withMag(h, class, dropped)), one)
				checkHeap(t, "one of two, of the processor 1", impl.DrainHeap(withMag(h, 4+class, dropped)), one)

				none := heapOf(2, runPage(1), freePage(), slabWithout(class))
				copy(none.Words[32:], h.Words[32:])
				checkHeap(t, "both", impl.DrainHeap(withMag(h, class, dropped, beside)), none)
				checkHeap(t, "both, of two processors", impl.DrainHeap(withMag(withMag(h, class, dropped), 4+class, beside)), none)
			}
		}
	}
}

func TestP6AsManyMagazinesAsBefore(t *testing.T) {
	for cpus := 1; cpus <= impl.MaxCpus; cpus++ {
		h := withMag(heapOf(cpus, slabWithout(0), slabOf(3, 1)), 4*cpus-1, 24)
		for _, got := range []impl.HeapResult{impl.DrainHeap(h), impl.ResizeHeap(h, 1), impl.ResizeHeap(h, 2), impl.ResizeHeap(h, 3)} {
			if got.Code != impl.OK || len(got.Heap.Mags) != 4*cpus || len(keptPlaces(got.Heap)) != 0 {
				t.Errorf("%d processors: %v", cpus, got)
			}
		}
	}
}

// checkResize holds ResizeHeap against what is worked out apart from the program.
func checkResize(t *testing.T, h impl.Heap, pages int) {
	t.Helper()
	name := numbered("ResizeHeap", int64(pages))
	got := impl.ResizeHeap(h, int64(pages))
	if wanted, isRight := wantedResized(h, pages); isRight {
		checkHeap(t, name, got, wanted)
	} else {
		checkNoHeap(t, name, got, impl.ErrState)
	}
}

func TestP1ResizeHeapOutsideOfItsBounds(t *testing.T) {
	for _, h := range []impl.Heap{heapOf(1), heapOf(2, freePages(impl.MaxPages)...), mixedHeap(), fullHeap(), heapOf(1, runPage(1))} {
		for _, pages := range wrongNumbers(0, impl.MaxPages) {
			checkNoHeap(t, numbered("ResizeHeap", pages), impl.ResizeHeap(h, pages), impl.ErrRange)
		}
	}
}

func TestP6ResizeHeapByItsNumbers(t *testing.T) {
	h := heapOf(1, freePage(), slabOf(3, 0), slabOf(2, 3), freePage())
	checkNoHeap(t, "a block that lives", impl.ResizeHeap(h, 2), impl.ErrState)
	checkNoHeap(t, "two blocks that live", impl.ResizeHeap(h, 1), impl.ErrState)
	checkNoHeap(t, "all pages", impl.ResizeHeap(h, 0), impl.ErrState)
	checkHeap(t, "a free page", impl.ResizeHeap(h, 3), heapOf(1, h.Pages[:3]...))
	checkHeap(t, "as many as there are", impl.ResizeHeap(h, 4), h)
	checkHeap(t, "more", impl.ResizeHeap(h, 6), heapOf(1, append(copyOf(h.Pages), freePages(2)...)...))
	checkHeap(t, "as many as there may be", impl.ResizeHeap(h, 40), heapOf(1, append(copyOf(h.Pages), freePages(36)...)...))

	kept := withMag(h, 2, 44)
	checkHeap(t, "just a block that is kept", impl.ResizeHeap(kept, 2), heapOf(1, h.Pages[:2]...))
	checkNoHeap(t, "that, and one that lives", impl.ResizeHeap(kept, 1), impl.ErrState)
	checkHeap(t, "as many as there are, and one is kept", impl.ResizeHeap(kept, 4), heapOf(1, freePage(), slabOf(3, 0), freePage(), freePage()))
	both := withMag(kept, 3, 16)
	checkHeap(t, "just blocks that are kept", impl.ResizeHeap(both, 0), heapOf(1))
	checkHeap(t, "all is kept, and there are more", impl.ResizeHeap(both, 5), heapOf(1, freePages(5)...))
}

func TestP6ResizeHeapOfAHeapWithoutPages(t *testing.T) {
	for cpus := 1; cpus <= impl.MaxCpus; cpus++ {
		for pages := range impl.MaxPages + 1 {
			wanted := heapOf(cpus, freePages(pages)...)
			checkHeap(t, "from no pages on", impl.ResizeHeap(heapOf(cpus), int64(pages)), wanted)
			checkHeap(t, "to no pages", impl.ResizeHeap(wanted, 0), heapOf(cpus))
		}
	}
}

// TestP6NoRunIsCut makes heaps smaller within a run, and just behind it.
func TestP6NoRunIsCut(t *testing.T) {
	for n := int64(1); n <= impl.MaxRun; n++ {
		list := slices.Concat(freePages(1), runOf(n), freePages(1))
		h := heapOf(2, list...)
		for pages := range n + 1 {
			checkNoHeap(t, numbered("a run is cut at", pages), impl.ResizeHeap(h, pages), impl.ErrState)
		}
		checkHeap(t, "just behind it", impl.ResizeHeap(h, n+1), heapOf(2, list[:n+1]...))
	}
}

func TestP6APageWithOneBlockThatLivesIsNotGone(t *testing.T) {
	for class, slots := range slotCounts {
		for slot := range slots {
			beside := (slot + 1) % slots
			start := impl.PageWords + slotSizes[class]*int64(beside)
			h := withMag(heapOf(2, freePage(), slabOf(class, slot, beside)), 4+class, start)
			checkNoHeap(t, "one lives, one is kept", impl.ResizeHeap(h, 1), impl.ErrState)
			checkNoHeap(t, "no pages", impl.ResizeHeap(h, 0), impl.ErrState)
			checkHeap(t, "it stays", impl.ResizeHeap(h, 2), heapOf(2, freePage(), slabOf(class, slot)))
			alone := withMag(heapOf(2, freePage(), slabOf(class, beside)), 4+class, start)
			checkHeap(t, "one is kept alone", impl.ResizeHeap(alone, 1), heapOf(2, freePage()))
		}
	}
}
