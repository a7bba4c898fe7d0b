package tests

import (
	"slices"
	"testing"

	"loop.example/g00729/impl"
)

// roomyHeap is a copy of h that has more memory behind each of its lists, which must stay, too.
func roomyHeap(h impl.Heap) impl.Heap {
	whole := append(slices.Clone(h.Mags), testPage())
	for number := range h.Mags {
		whole[number] = roomy(h.Mags[number])
	}
	return impl.Heap{Pages: roomyPages(h.Pages), Words: roomy(h.Words), Mags: whole[:len(h.Mags)]}
}

// checkKeptHeap wants the roomyHeap of before as it was made, and the memory behind its lists, too.
func checkKeptHeap(t *testing.T, name string, given, before impl.Heap) {
	t.Helper()
	checkKeptPages(t, name, given.Pages, before.Pages)
	checkKept(t, name+", the words", given.Words, before.Words)
	if len(given.Mags) != len(before.Mags) {
		t.Fatalf("%s: the magazines were changed", name)
	}
	for number := range given.Mags {
		checkKept(t, name+", a magazine", given.Mags[number], before.Mags[number])
	}
	if behind := given.Mags[:len(given.Mags)+1]; !slices.Equal(behind[len(given.Mags)], testPage()) {
		t.Errorf("%s: memory behind the magazines was changed", name)
	}
}

// spoilHeap overwrites all that the memory of h and of its lists holds.
func spoilHeap(h impl.Heap) {
	spoil(h.Words)
	spoilPages(h.Pages)
	mags := h.Mags[:cap(h.Mags)]
	for number := range mags {
		spoil(mags[number])
		mags[number] = []int64{5, 5, 5}
	}
}

// spoilers overwrite one list of numbers, or of slots, each.
func spoilers(h impl.Heap) []func() {
	list := []func(){func() { spoil(h.Words) }}
	for _, mag := range h.Mags {
		list = append(list, func() { spoil(mag) })
	}
	for _, page := range h.Pages {
		list = append(list, func() { spoilUsed(page.Used) })
	}
	return list
}

type heapCall struct {
	name string
	call func(h impl.Heap, number int64) impl.HeapResult
}

// inReply has a value in the place of a reply, so that all calls are held against one another alike.
func inReply(got impl.IntResult) impl.HeapResult {
	return impl.HeapResult{Code: got.Code, Reply: impl.Reply{Value: got.Value}}
}

func heapCalls() []heapCall {
	return []heapCall{
		{"HeapFault", func(h impl.Heap, _ int64) impl.HeapResult { return impl.HeapResult{Code: impl.HeapFault(h)} }},
		{"NewHeap", func(h impl.Heap, number int64) impl.HeapResult { return impl.NewHeap(number, int64(len(h.Mags)/4)) }},
		{"LiveAt", func(h impl.Heap, at int64) impl.HeapResult { return inReply(impl.LiveAt(h, at)) }},
		{"LiveBlocks", func(h impl.Heap, _ int64) impl.HeapResult {
			got := impl.LiveBlocks(h)
			return impl.HeapResult{Code: got.Code, Heap: impl.Heap{Words: got.List}}
		}},
		{"HeldIn", func(h impl.Heap, _ int64) impl.HeapResult { return inReply(impl.HeldIn(h)) }},
		{"DrainHeap", func(h impl.Heap, _ int64) impl.HeapResult { return impl.DrainHeap(h) }},
		{"ResizeHeap", impl.ResizeHeap},
		{"SameHeaps", func(h impl.Heap, _ int64) impl.HeapResult {
			same := impl.SameHeaps(h, mixedHeap()) && impl.SameHeaps(h, h)
			return inReply(impl.IntResult{Value: map[bool]int64{true: 1}[same]})
		}},
	}
}

// checkHeapAnswer wants the answer that was told ahead.
func checkHeapAnswer(t *testing.T, name string, got, wanted impl.HeapResult) {
	t.Helper()
	if got.Code != wanted.Code || got.Reply != wanted.Reply || !equalHeaps(got.Heap, wanted.Heap) {
		t.Errorf("%s:\ngot    %v\nwanted %v", name, got, wanted)
	}
}

// forEachHeapCall asks each call of each heap and of many numbers.
func forEachHeapCall(do func(made heapCall, h impl.Heap, number int64)) {
	for _, made := range heapCalls() {
		for _, h := range anyHeaps() {
			for _, number := range []int64{0, 1, 2, 8, 19, 22, 23, 32, 39, 40, 41, 48, 120, 351, 352, -1, greatest, least} {
				do(made, h, number)
			}
		}
	}
}

func TestP1AHeapStays(t *testing.T) {
	forEachHeapCall(func(made heapCall, h impl.Heap, number int64) {
		given := roomyHeap(h)
		made.call(given, number)
		checkKeptHeap(t, made.name, given, h)
	})
	for _, h := range anyHeaps() {
		a, b := roomyHeap(h), roomyHeap(mixedHeap())
		impl.SameHeaps(a, b)
		checkKeptHeap(t, "SameHeaps, the first heap", a, h)
		checkKeptHeap(t, "SameHeaps, the second heap", b, mixedHeap())
	}
}

func TestP1TheAnsweredHeapIsNewMemory(t *testing.T) {
	answered := map[string]bool{}
	forEachHeapCall(func(made heapCall, h impl.Heap, number int64) {
		given := roomyHeap(h)
		first, second := made.call(given, number), made.call(given, number)
		if len(first.Heap.Words) == 0 {
			return
		}
		answered[made.name] = true
		wanted := second
		wanted.Heap = copyHeap(second.Heap)

		spoilHeap(first.Heap)
		checkKeptHeap(t, made.name+", its answer overwritten", given, h)
		checkHeapAnswer(t, made.name+", the other answer overwritten", second, wanted)

		spoilHeap(given)
		checkHeapAnswer(t, made.name+", its arguments overwritten", second, wanted)
	})
	if len(answered) != 4 {
		t.Error("just these calls answered lists:", answered)
	}
}

func TestP1TheListsOfAnAnsweredHeapShareNothing(t *testing.T) {
	forEachHeapCall(func(made heapCall, h impl.Heap, number int64) {
		got := made.call(h, number).Heap
		for i := range spoilers(got) {
			wanted := copyHeap(got)
			spoilers(got)[i]()
			for j, spoilOther := range spoilers(wanted) {
				if i == j {
					spoilOther()
				}
			}
			if !equalHeaps(got, wanted) {
				t.Errorf("%s, one list overwritten:\ngot    %v\nwanted %v", made.name, got, wanted)
			}
		}
	})
}

func TestP1ListsOfAHeapThatShareMemoryAreTakenApart(t *testing.T) {
	full := slabWithout(3)
	h := heapOf(1, full, full, full)
	h.Pages[1].Used, h.Pages[2].Used = h.Pages[0].Used, h.Pages[0].Used
	places := []int64{8, 16, 24}
	h.Mags = [][]int64{places[:0], places[:0], places[:0], places[1:]}
	wanted := heapOf(1, full, freePage(), full)
	copy(wanted.Words[32:], h.Words[32:])
	for _, got := range []impl.HeapResult{impl.DrainHeap(h), impl.ResizeHeap(h, 3)} {
		checkHeap(t, "pages that share their slots", got, wanted)
		spoilUsed(got.Heap.Pages[0].Used)
		if !slices.Equal(got.Heap.Pages[2].Used, full.Used) {
			t.Error("two pages of an answer share their slots")
		}
	}
	if !slices.Equal(h.Pages[0].Used, full.Used) || !slices.Equal(places, []int64{8, 16, 24}) {
		t.Error("what is shared was changed")
	}
}

func TestP1ANewHeapIsNewEachTime(t *testing.T) {
	first, second := impl.NewHeap(3, 2), impl.NewHeap(3, 2)
	spoilHeap(first.Heap)
	checkHeap(t, "a heap beside one that was overwritten", second, heapOf(2, freePages(3)...))
	checkHeap(t, "a heap behind one that was overwritten", impl.NewHeap(3, 2), heapOf(2, freePages(3)...))
}

func TestP1NothingOfAHeapIsKept(t *testing.T) {
	for _, made := range heapCalls() {
		for _, h := range anyHeaps() {
			for _, number := range []int64{0, 2, 19, 40} {
				wanted := made.call(h, number)
				for _, between := range heapCalls() {
					between.call(mixedHeap(), 19)
					between.call(fullHeap(), number)
					between.call(impl.Heap{}, 0)
				}
				checkHeapAnswer(t, made.name+", once more", made.call(h, number), wanted)
			}
		}
	}
}

func TestP1NilAndEmptyMagazinesAreTheSame(t *testing.T) {
	forEachHeapCall(func(made heapCall, h impl.Heap, number int64) {
		empty := copyHeap(h)
		for i := range empty.Mags {
			if len(empty.Mags[i]) == 0 {
				empty.Mags[i] = []int64{}
			}
		}
		for i := range empty.Pages {
			if len(empty.Pages[i].Used) == 0 {
				empty.Pages[i].Used = []bool{}
			}
		}
		checkHeapAnswer(t, made.name+", empty lists", made.call(empty, number), made.call(h, number))
	})
}

func TestP1WithACodeAHeapIsZero(t *testing.T) {
	codes := map[int64]bool{}
	forEachHeapCall(func(made heapCall, h impl.Heap, number int64) {
		got := made.call(h, number)
		codes[got.Code] = true
		if got.Code != impl.OK {
			checkNoHeap(t, made.name, got, got.Code)
		}
	})
	for _, code := range []int64{impl.OK, impl.ErrForm, impl.ErrMany, impl.ErrRange, impl.ErrNone, impl.ErrTaken, impl.ErrState} {
		if !codes[code] {
			t.Error("nothing told the code", code)
		}
	}
}
