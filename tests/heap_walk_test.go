package tests

import (
	"slices"
	"testing"

	"loop.example/g00729/impl"
)

// heapWalker makes heaps by numbers that a short rule tells.
type heapWalker struct {
	*walker
}

// newHeapWalker has pages in which half of what is to be taken is dropped again, without asking the program.
func newHeapWalker(pages int, number uint32) heapWalker {
	w := heapWalker{newWalker(pages, number)}
	w.list = nil
	for len(w.list) < pages {
		w.list = append(w.list, w.unit(pages-len(w.list))...)
	}
	return w
}

// unit is a free page, a page of blocks, or a run, of so many pages at most.
func (w heapWalker) unit(most int) []impl.Page {
	switch w.next(4) {
	case 0:
		return freePages(1)
	case 1:
		return runOf(int64(1 + w.next(min(most, impl.MaxRun))))
	}
	class := w.next(4)
	page := slabOf(class, w.next(slotCounts[class]))
	often := 1 + w.next(3)
	for slot := range page.Used {
		page.Used[slot] = page.Used[slot] || w.next(often) == 0
	}
	return []impl.Page{page}
}

// heap has words in all pages that are not free, and some of the slots that are used in magazines.
func (w heapWalker) heap(cpus int) impl.Heap {
	h := heapOf(cpus, w.list...)
	blocks := holdingsOf(h.Pages)
	for range w.next(40 * len(w.list)) {
		at := w.next(len(blocks))
		class := slices.Index(slotSizes, blocks[at].size)
		if class < 0 || slices.Contains(keptPlaces(h), blocks[at].start) {
			continue
		}
		if number := class + 4*w.next(cpus); len(h.Mags[number]) < impl.MagRoom {
			h.Mags[number] = append(h.Mags[number], blocks[at].start)
		}
	}
	return h
}

// checkAllOf holds each function against what is worked out apart from the program.
func checkAllOf(t *testing.T, h impl.Heap) {
	t.Helper()
	checkRightHeap(t, "a heap", h)
	checkLive(t, h)
	checkHeap(t, "drained", impl.DrainHeap(h), wantedDrained(h))
	for pages := range impl.MaxPages + 1 {
		checkResize(t, h, pages)
	}
	if t.Failed() {
		t.Fatalf("the heap is %v", h)
	}
}

func TestP6ManyHeaps(t *testing.T) {
	kept, live, refused := 0, 0, 0
	for _, pages := range []int{1, 2, 3, 5, 8, 13, 21, impl.MaxPages} {
		for number := range uint32(40) {
			h := newHeapWalker(pages, number).heap(1 + int(number%impl.MaxCpus))
			checkAllOf(t, h)
			kept += len(keptPlaces(h))
			live += len(liveStarts(h))
			if impl.ResizeHeap(h, int64(pages)/2).Code == impl.ErrState {
				refused++
			}
		}
	}
	if kept < 500 || live < 5000 || refused < 100 {
		t.Error("the heaps are too few:", kept, live, refused)
	}
}

func TestP6RightHeaps(t *testing.T) {
	for _, h := range rightHeaps() {
		checkAllOf(t, h)
	}
}

// checkOneBlock wants each place to live just where it is in one block that lives.
func checkOneBlock(t *testing.T, h impl.Heap) {
	t.Helper()
	owners := make([][]int64, len(h.Words))
	for _, start := range impl.LiveBlocks(h).List {
		size := impl.BlockSize(h.Pages, start)
		for at := start; at < start+size.Value; at++ {
			owners[at] = append(owners[at], start)
		}
	}
	for at, list := range owners {
		got := impl.LiveAt(h, int64(at))
		if len(list) == 0 {
			checkNoValue(t, numbered("LiveAt", int64(at)), got, impl.ErrNone)
		} else if len(list) > 1 || got != (impl.IntResult{Value: list[0]}) {
			t.Errorf("the place %d: %v, and it is in the blocks %v", at, got, list)
		}
	}
}

// checkSameLife wants all that lived, with its words, and nothing else.
func checkSameLife(t *testing.T, name string, before, after impl.Heap) {
	t.Helper()
	lived := impl.LiveBlocks(before).List
	checkList(t, name+", LiveBlocks", impl.LiveBlocks(after), lived)
	checkValue(t, name+", HeldIn", impl.HeldIn(after), 0)
	for _, start := range lived {
		size := impl.BlockSize(before.Pages, start).Value
		checkValue(t, name+", LiveAt", impl.LiveAt(after, start+size-1), start)
		checkValue(t, name+", BlockSize", impl.BlockSize(after.Pages, start), size)
		if !slices.Equal(after.Words[start:start+size], before.Words[start:start+size]) {
			t.Errorf("%s: the words of the block at %d are not as they were", name, start)
		}
	}
}

func TestP6WhatLivesStays(t *testing.T) {
	for _, h := range rightHeaps() {
		checkOneBlock(t, h)
		checkSameLife(t, "drained", h, impl.DrainHeap(h).Heap)
		end := int64(0)
		for _, start := range impl.LiveBlocks(h).List {
			end = start + impl.BlockSize(h.Pages, start).Value
		}
		for pages := range int64(impl.MaxPages + 1) {
			name := numbered("with so many pages:", pages)
			got := impl.ResizeHeap(h, pages)
			if pages*impl.PageWords < end {
				checkNoHeap(t, name+", where a block would be gone", got, impl.ErrState)
				continue
			}
			if got.Code != impl.OK || int64(len(got.Heap.Pages)) != pages {
				t.Fatalf("%s: %v", name, got)
			}
			checkSameLife(t, name, h, got.Heap)
		}
	}
}
