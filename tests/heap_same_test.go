package tests

import (
	"slices"
	"testing"

	"loop.example/g00729/impl"
)

// checkSameHeaps wants this answer for both orders of the heaps.
func checkSameHeaps(t *testing.T, name string, a, b impl.Heap, wanted bool) {
	t.Helper()
	if impl.SameHeaps(a, b) != wanted || impl.SameHeaps(b, a) != wanted {
		t.Errorf("%s: %v and %v, wanted %v", name, a, b, wanted)
	}
}

// anyHeaps is heaps with and without faults; some of them are the same.
func anyHeaps() []impl.Heap {
	heaps := append(rightHeaps(), impl.Heap{}, impl.Heap{Pages: freePages(1)}, impl.Heap{Words: []int64{0}}, impl.Heap{Mags: make([][]int64, 1)}, impl.Heap{Mags: make([][]int64, 12)})
	for _, flaw := range heapFlaws() {
		h := mixedHeap()
		flaw.lay(&h)
		heaps = append(heaps, h)
	}
	for _, page := range faultyPages() {
		heaps = append(heaps, heapOf(1, page))
	}
	return append(heaps, impl.Heap{Words: []int64{greatest, least}}, impl.Heap{Mags: [][]int64{{greatest, least, 0, 0}}}, heapOf(1, freePages(100)...))
}

func TestP1SameHeapsOfEachTwo(t *testing.T) {
	all := anyHeaps()
	for i, a := range all {
		checkSameHeaps(t, "a heap and itself", a, a, true)
		checkSameHeaps(t, "a heap and its copy", a, copyHeap(a), true)
		for _, b := range all[:i] {
			checkSameHeaps(t, "two heaps", a, b, equalHeaps(a, b))
		}
	}
}

func TestP1SameHeapsLooksAtEachWordAndPage(t *testing.T) {
	h := mixedHeap()
	for at := range h.Words {
		for _, away := range []int64{1, -1, 1 << 8, 1 << 32, -1 << 63} {
			checkSameHeaps(t, "one word differs", h, withWordAt(h, at, h.Words[at]+away), false)
		}
	}
	for number := range h.Pages {
		for _, page := range append(faultyPages(), freePage(), restPage(), runPage(1), slabOf(0, 1)) {
			changed := copyHeap(h)
			changed.Pages[number] = page
			checkSameHeaps(t, "one page differs", h, changed, equalPages(h.Pages, changed.Pages))
		}
		for slot := range h.Pages[number].Used {
			changed := copyHeap(h)
			changed.Pages[number].Used[slot] = !changed.Pages[number].Used[slot]
			checkSameHeaps(t, "one slot differs", h, changed, false)
		}
	}
}

func TestP1SameHeapsLooksAtEachPlaceOfAMagazine(t *testing.T) {
	h := mixedHeap()
	for number, mag := range h.Mags {
		for i := range mag {
			for _, away := range []int64{1, -1, 1 << 32, -1 << 63} {
				checkSameHeaps(t, "one place differs", h, withMag(h, number, withWord(mag, i, mag[i]+away)...), false)
			}
		}
		checkSameHeaps(t, "one place more", h, withMag(h, number, append(slices.Clone(mag), 0)...), false)
		checkSameHeaps(t, "no places", h, withMag(h, number), len(mag) == 0)
		if len(mag) == 2 {
			checkSameHeaps(t, "another order", h, withMag(h, number, mag[1], mag[0]), false)
			checkSameHeaps(t, "the oldest one alone", h, withMag(h, number, mag[0]), false)
			checkSameHeaps(t, "the newest one alone", h, withMag(h, number, mag[1]), false)
		}
		swapped := copyHeap(h)
		other := (number + 1) % len(h.Mags)
		swapped.Mags[number], swapped.Mags[other] = swapped.Mags[other], swapped.Mags[number]
		checkSameHeaps(t, "two magazines in another order", h, swapped, false)
	}
}

func TestP1SameHeapsCountsTheLists(t *testing.T) {
	for _, h := range []impl.Heap{mixedHeap(), heapOf(2, freePages(3)...), heapOf(2)} {
		fewerMags, moreMags, fewerPages, fewerWords, morePages, moreWords := copyHeap(h), copyHeap(h), copyHeap(h), copyHeap(h), copyHeap(h), copyHeap(h)
		fewerMags.Mags = fewerMags.Mags[:len(h.Mags)-1]
		moreMags.Mags = append(moreMags.Mags, nil)
		morePages.Pages = append(morePages.Pages, freePage())
		moreWords.Words = append(moreWords.Words, 0)
		changed := []impl.Heap{fewerMags, moreMags, morePages, moreWords}
		if len(h.Pages) > 0 {
			fewerPages.Pages = fewerPages.Pages[:len(h.Pages)-1]
			fewerWords.Words = fewerWords.Words[:len(h.Words)-1]
			changed = append(changed, fewerPages, fewerWords)
		}
		for i, other := range changed {
			checkSameHeaps(t, numbered("another length", int64(i)), h, other, false)
		}
	}
	checkSameHeaps(t, "four magazines and eight", heapOf(1), heapOf(2), false)
	checkSameHeaps(t, "four magazines and none", heapOf(1), impl.Heap{}, false)
}

func TestP1NilAndEmptyListsOfAHeapAreTheSame(t *testing.T) {
	checkSameHeaps(t, "no lists", impl.Heap{}, impl.Heap{Pages: []impl.Page{}, Words: []int64{}, Mags: [][]int64{}}, true)
	checkSameHeaps(t, "empty magazines", heapOf(2), impl.Heap{Pages: []impl.Page{}, Words: []int64{}, Mags: slices.Repeat([][]int64{{}}, 8)}, true)
	roomyMags := impl.Heap{Words: make([]int64, 0, 16), Mags: slices.Repeat([][]int64{make([]int64, 0, 2)}, 8)}
	checkSameHeaps(t, "empty magazines, with room for some", heapOf(2), roomyMags, true)
	page := impl.Page{Used: []bool{}}
	checkSameHeaps(t, "no slots", heapOf(1, freePage()), heapOf(1, page), true)
	checkSameHeaps(t, "no magazines, and one that is empty", impl.Heap{}, impl.Heap{Mags: [][]int64{{}}}, false)
}
