package tests

import (
	"slices"
	"testing"

	"loop.example/g00729/impl"
)

func checkPlaced(t *testing.T, name string, h impl.Heap, size int64, wanted bool) {
	t.Helper()
	if got := impl.IsPlaced(h, size); got != wanted {
		t.Errorf("%s: %v of the size %d, in %v", name, got, size, h)
	}
}

func TestP7IsPlacedOfEachSize(t *testing.T) {
	placed, refused := 0, 0
	for _, h := range append(rightHeaps(), keptOfAll()) {
		for size := int64(1); size <= impl.MaxSize; size++ {
			_, _, wanted := wantedPlace(h, 0, size)
			checkPlaced(t, "a right heap", h, size, wanted)
			if got := impl.DoHeap(h, 0, allocOf(size)); (got.Reply.Code == impl.OK) != wanted {
				t.Errorf("OpAlloc of %d: %v", size, got.Reply)
			}
			if wanted {
				placed++
			} else {
				refused++
			}
		}
	}
	if placed < 500 || refused < 200 {
		t.Error("the heaps are too few:", placed, refused)
	}
}

func TestP7IsPlacedBoundsTheSize(t *testing.T) {
	for _, h := range []impl.Heap{heapOf(1, freePages(impl.MaxPages)...), keptOfAll(), mixedHeap(), heapOf(1)} {
		for _, size := range append(wrongNumbers(1, impl.MaxSize), 0, -1, impl.MaxSize+1) {
			if size < 1 || size > impl.MaxSize {
				checkPlaced(t, "a size that is none", h, size, false)
			}
		}
	}
	h := heapOf(2, freePages(4)...)
	for size := int64(1); size <= impl.MaxSize; size++ {
		checkPlaced(t, "four free pages", h, size, true)
		checkPlaced(t, "three free pages", heapOf(2, freePages(3)...), size, size <= 48)
		checkPlaced(t, "one free page", heapOf(2, freePages(1)...), size, size <= 16)
		checkPlaced(t, "no pages", heapOf(1), size, false)
	}
}

func TestP7IsPlacedOfAHeapWithAFault(t *testing.T) {
	for _, h := range anyHeaps() {
		if wantedHeapFault(h) == impl.OK {
			continue
		}
		for size := int64(-1); size <= impl.MaxSize+1; size++ {
			checkPlaced(t, "a heap with a fault", h, size, false)
		}
	}
	for _, cpus := range []int{0, 3, 4} {
		h := heapOf(1, freePages(4)...)
		h.Mags = make([][]int64, 4*cpus)
		checkPlaced(t, "processors that may not be", h, 1, false)
	}
}

func TestP7IsPlacedWhereOnlyADrainMakesRoom(t *testing.T) {
	h := heapOf(2, slabWithout(3), slabOf(0, 5, 6), slabOf(1, 7))
	h.Mags = [][]int64{nil, {46}, nil, nil, {21, 22}, nil, nil, {0}}
	for size := int64(1); size <= impl.MaxSize; size++ {
		checkPlaced(t, "two pages are kept, and a slot", h, size, size <= 32)
		checkPlaced(t, "one page is kept", withMag(h, 1), size, size <= 16)
		checkPlaced(t, "a slot is kept", withMag(withMag(h, 1), 4), size, size <= 2 || size >= 5 && size <= 8)
		checkPlaced(t, "nothing is kept", withMag(withMag(withMag(h, 1), 4), 7), size, size <= 2)
	}
}

// TestP7TheMagazinesOfBothProcessorsMakeRoom keeps the one slot that can be given by turns for each of them.
func TestP7TheMagazinesOfBothProcessorsMakeRoom(t *testing.T) {
	for class, size := range slotSizes {
		h := heapOf(2, slabWithout(class), runPage(1))
		for number := range h.Mags {
			if number%4 == class {
				checkPlaced(t, "the one slot that is kept", withMag(h, number, 16-size), size, true)
			}
		}
		for n := int64(1); n <= impl.MaxSize; n++ {
			checkPlaced(t, "all slots are used", h, n, false)
			checkPlaced(t, "the slot is of another class", withMag(h, class, 0), n, n <= size && 2*n > size)
		}
	}
}

// TestP7APlaceIsRefusedJustWhereADrainMakesNoRoom asks the pages of the drained heap alone.
func TestP7APlaceIsRefusedJustWhereADrainMakesNoRoom(t *testing.T) {
	for _, h := range rightHeaps() {
		drained := impl.DrainHeap(h).Heap.Pages
		for size := int64(1); size <= impl.MaxSize; size++ {
			wanted := impl.FindRun(drained, (size+15)/16).Code
			if class := slices.IndexFunc(slotSizes, func(words int64) bool { return words >= size }); class >= 0 {
				wanted = impl.FindSlot(drained, int64(class)).Code
			}
			checkPlaced(t, "a right heap", h, size, wanted == impl.OK)
			for cpu := range cpusOf(h) {
				for name, made := range givers() {
					if got := impl.DoHeap(h, cpu, made(size)).Reply; got.Code != wanted {
						t.Errorf("%s of %d: %v, wanted the code %d", name, size, got, wanted)
					}
				}
			}
		}
	}
}
