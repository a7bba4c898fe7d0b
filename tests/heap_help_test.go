package tests

import (
	"slices"
	"testing"

	"loop.example/g00729/impl"
)

// heapOf is a heap of these pages with empty magazines, and with another word at each place of a page that is not free, the bounds among them.
func heapOf(cpus int, list ...impl.Page) impl.Heap {
	h := impl.Heap{Pages: copyOf(list), Words: make([]int64, len(list)*impl.PageWords), Mags: make([][]int64, 4*cpus)}
	for at := range h.Words {
		if h.Pages[at/impl.PageWords].Kind != impl.PageFree {
			h.Words[at] = []int64{impl.MaxValue - int64(at), int64(at) - impl.MaxValue, int64(at) + 1}[at%3]
		}
	}
	return h
}

// copyHeap shares no memory with h.
func copyHeap(h impl.Heap) impl.Heap {
	mags := slices.Clone(h.Mags)
	for number := range mags {
		mags[number] = slices.Clone(h.Mags[number])
	}
	return impl.Heap{Pages: copyOf(h.Pages), Words: slices.Clone(h.Words), Mags: mags}
}

// withMag is a copy of h with these places in the magazine of this number.
func withMag(h impl.Heap, number int, places ...int64) impl.Heap {
	changed := copyHeap(h)
	changed.Mags[number] = places
	return changed
}

// withWordAt is a copy of h with one word of it replaced.
func withWordAt(h impl.Heap, at int, word int64) impl.Heap {
	changed := copyHeap(h)
	changed.Words[at] = word
	return changed
}

// mixedHeap has pages of every kind and class, and magazines of none, one and two: those of the pages 1, 7 and 12 hold all that these pages have.
func mixedHeap() impl.Heap {
	h := heapOf(2, mixedPages()...)
	h.Mags = [][]int64{{19, 31}, {32}, nil, {120}, {181}, {206, 192}, {276, 272}, {208}}
	return h
}

// fullHeap has full magazines of all classes and processors, and a run that lives.
func fullHeap() impl.Heap {
	h := heapOf(2, append([]impl.Page{slabWithout(0), slabWithout(1), slabWithout(2), slabWithout(3), slabWithout(3), freePage()}, runOf(2)...)...)
	h.Mags = [][]int64{{0, 15}, {18, 16}, {32, 36}, {48, 64}, {7, 3}, {30, 22}, {44, 40}, {72, 56}}
	return h
}

// rightHeaps is heaps without a fault: of no pages, of each page, of free pages, and with magazines that are empty, full and between.
func rightHeaps() []impl.Heap {
	heaps := []impl.Heap{
		heapOf(1), heapOf(2), heapOf(1, freePages(impl.MaxPages)...), heapOf(2, freePages(3)...), heapOf(2, mixedPages()...), mixedHeap(), fullHeap(),
		heapOf(2, slices.Repeat(runOf(4), impl.MaxPages/4)...),
		withMag(heapOf(1, slabWithout(3), freePage()), 3, 8),
		withMag(heapOf(1, slabOf(3, 1), freePage()), 3, 8),
		withMag(heapOf(2, append(freePages(impl.MaxPages-1), slabOf(0, 15))...), 4, 639),
	}
	for _, unit := range allUnits() {
		heaps = append(heaps, heapOf(1, slices.Concat(freePages(1), unit, unit)...))
	}
	for _, number := range []uint32{1, 2, 3} {
		for _, pages := range []int{1, 4, 13, impl.MaxPages} {
			heaps = append(heaps, newHeapWalker(pages, number).heap(2))
		}
	}
	return heaps
}

// keptPlaces is all places of all magazines.
func keptPlaces(h impl.Heap) []int64 {
	return slices.Concat(h.Mags...)
}

// liveHoldings tells of each place the block that lives there, apart from the program.
func liveHoldings(h impl.Heap) []holding {
	all := holdingsOf(h.Pages)
	for at, held := range all {
		if slices.Contains(keptPlaces(h), held.start) {
			all[at] = holding{}
		}
	}
	return all
}

// liveStarts is the places where blocks begin that live, rising.
func liveStarts(h impl.Heap) []int64 {
	var list []int64
	for at, held := range liveHoldings(h) {
		if held.size != 0 && held.start == int64(at) {
			list = append(list, held.start)
		}
	}
	return list
}

// wantedDrained takes the blocks of magazines out one by one, apart from the program.
func wantedDrained(h impl.Heap) impl.Heap {
	wanted := impl.Heap{Pages: copyOf(h.Pages), Mags: make([][]int64, len(h.Mags))}
	blocks := holdingsOf(h.Pages)
	for _, at := range keptPlaces(h) {
		wanted.Pages = withoutHeld(wanted.Pages, blocks[at])
	}
	for at, word := range h.Words {
		if wanted.Pages[at/impl.PageWords].Kind == impl.PageFree {
			word = 0
		}
		wanted.Words = append(wanted.Words, word)
	}
	return wanted
}

// wantedResized is the drained heap with so many pages, and whether it may be so.
func wantedResized(h impl.Heap, pages int) (impl.Heap, bool) {
	wanted := wantedDrained(h)
	for len(wanted.Pages) > pages {
		last := len(wanted.Pages) - 1
		if wanted.Pages[last].Kind != impl.PageFree {
			return impl.Heap{}, false
		}
		wanted.Pages, wanted.Words = wanted.Pages[:last], wanted.Words[:last*impl.PageWords]
	}
	for len(wanted.Pages) < pages {
		wanted.Pages = append(wanted.Pages, freePage())
		wanted.Words = append(wanted.Words, make([]int64, impl.PageWords)...)
	}
	return wanted, true
}

// equalHeaps holds heaps against each other apart from the program; nil and an empty list are the same.
func equalHeaps(a, b impl.Heap) bool {
	if len(a.Mags) != len(b.Mags) {
		return false
	}
	for number := range a.Mags {
		if !slices.Equal(a.Mags[number], b.Mags[number]) {
			return false
		}
	}
	return equalPages(a.Pages, b.Pages) && slices.Equal(a.Words, b.Words)
}

// checkHeap wants OK, no reply and just this heap, and that it has no fault.
func checkHeap(t *testing.T, name string, got impl.HeapResult, wanted impl.Heap) {
	t.Helper()
	if got.Code != impl.OK || got.Reply != (impl.Reply{}) {
		t.Errorf("%s: code %d, reply %v", name, got.Code, got.Reply)
	}
	if !equalHeaps(got.Heap, wanted) {
		t.Errorf("%s:\ngot    %v\nwanted %v", name, got.Heap, wanted)
	}
	if code := impl.HeapFault(got.Heap); code != impl.OK {
		t.Errorf("%s: fault %d of what is answered", name, code)
	}
}

// checkNoHeap wants this code and nothing beside it.
func checkNoHeap(t *testing.T, name string, got impl.HeapResult, code int64) {
	t.Helper()
	h := got.Heap
	if got.Code != code || len(h.Pages)+len(h.Words)+len(h.Mags) != 0 || got.Reply != (impl.Reply{}) {
		t.Errorf("%s: %v, wanted the code %d alone", name, got, code)
	}
}

// checkFaultyHeap wants this code of HeapFault, and of each function that asks it, whatever else it is asked.
func checkFaultyHeap(t *testing.T, name string, h impl.Heap, code int64) {
	t.Helper()
	if got := impl.HeapFault(h); got != code {
		t.Errorf("%s: fault %d, wanted %d, of %v", name, got, code, h)
	}
	checkCode(t, name+", LiveBlocks", impl.LiveBlocks(h), code)
	checkNoValue(t, name+", HeldIn", impl.HeldIn(h), code)
	checkNoHeap(t, name+", DrainHeap", impl.DrainHeap(h), code)
	for _, number := range []int64{0, 1, 19, 40, 41, -1, greatest, least} {
		checkNoValue(t, numbered(name+", LiveAt", number), impl.LiveAt(h, number), code)
		checkNoHeap(t, numbered(name+", ResizeHeap", number), impl.ResizeHeap(h, number), code)
	}
}

// checkRightHeap wants no fault.
func checkRightHeap(t *testing.T, name string, h impl.Heap) {
	t.Helper()
	if code := impl.HeapFault(h); code != impl.OK {
		t.Errorf("%s: fault %d of %v", name, code, h)
	}
}
