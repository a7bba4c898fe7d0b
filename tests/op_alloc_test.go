package tests

import (
	"slices"
	"testing"

	"loop.example/g00729/impl"
)

// withPage is a copy of h with one page of it replaced.
func withPage(h impl.Heap, number int, page impl.Page) impl.Heap {
	changed := copyHeap(h)
	changed.Pages[number] = page
	return changed
}

// givers is the two ops that give a new block.
func givers() map[string]func(n int64) impl.Op {
	return map[string]func(n int64) impl.Op{"OpAlloc": allocOf, "OpZero": zeroOf}
}

func TestP7ABlockOfTheExample(t *testing.T) {
	h := impl.NewHeap(3, 1).Heap
	got := impl.DoHeap(h, 0, allocOf(20))
	wanted := heapOf(1, freePages(3)...)
	copy(wanted.Pages, runOf(2))
	checkReply(t, "20 words in a new heap of 3 pages", got, impl.Reply{Value: 0}, wanted)
	checkReply(t, "the words of it", impl.DoHeap(got.Heap, 0, sizeAt(0)), impl.Reply{Value: 32}, wanted)
}

func TestP7ABlockOfEachSizeInANewHeap(t *testing.T) {
	for name, made := range givers() {
		for n := int64(1); n <= impl.MaxSize; n++ {
			class := slices.IndexFunc(slotSizes, func(size int64) bool { return size >= n })
			wanted := heapOf(2, freePages(5)...)
			if class >= 0 {
				wanted.Pages[0] = slabOf(class, 0)
			} else {
				copy(wanted.Pages, runOf((n+15)/16))
			}
			for cpu := range int64(2) {
				checkTurned(t, numbered(name+" of", n), impl.NewHeap(5, 2).Heap, cpu, made(n), 0, wanted)
			}
		}
	}
}

func TestP7SizesAtTheBoundsOfEachClass(t *testing.T) {
	for _, made := range []struct{ n, size int64 }{
		{1, 1}, {2, 2}, {3, 4}, {4, 4}, {5, 8}, {8, 8}, {9, 16}, {16, 16}, {17, 32}, {32, 32}, {33, 48}, {48, 48}, {49, 64}, {64, 64},
	} {
		for name, giver := range givers() {
			got := impl.DoHeap(impl.NewHeap(4, 1).Heap, 0, giver(made.n))
			checkReply(t, numbered(name+" of", made.n), impl.DoHeap(got.Heap, 0, sizeAt(0)), impl.Reply{Value: made.size}, got.Heap)
		}
	}
}

// keptOfAll is a heap in which each magazine has the places of two blocks of its own page, and a page that is free.
func keptOfAll() impl.Heap {
	var list []impl.Page
	for range impl.MaxCpus {
		for class := range slotCounts {
			list = append(list, slabOf(class, 0, 1))
		}
	}
	h := heapOf(2, append(list, freePage())...)
	for number := range h.Mags {
		start, size := int64(16*number), slotSizes[number%4]
		h.Mags[number] = []int64{start + size, start}
	}
	return h
}

func TestP7TheNewestPlaceOfTheOwnMagazineIsGiven(t *testing.T) {
	h := keptOfAll()
	for n := int64(1); n <= impl.MaxSmall; n++ {
		class := slices.IndexFunc(slotSizes, func(size int64) bool { return size >= n })
		for cpu := range 2 {
			number := 4*cpu + class
			newest, oldest := int64(16*number), int64(16*number)+slotSizes[class]
			one, none := withMag(h, number, oldest), withMag(h, number)
			checkTurned(t, "the newest one of two", h, int64(cpu), allocOf(n), newest, one)
			checkTurned(t, "the one that is left", one, int64(cpu), allocOf(n), oldest, none)
			checkStays(t, "the newest one of two", h, one, -1)
			// Slots of a page have no order by which one is given: only that it is the newest one counts.
			turned := withMag(h, number, newest, oldest)
			checkTurned(t, "the newest one of two, in another order", turned, int64(cpu), allocOf(n), oldest, withMag(h, number, newest))
		}
	}
}

func TestP7AnotherMagazineIsNotAsked(t *testing.T) {
	h := keptOfAll()
	for class, slots := range slotCounts {
		for cpu := range 2 {
			asked := withMag(h, 4*cpu+class)
			got := impl.DoHeap(asked, int64(cpu), allocOf(slotSizes[class]))
			for number, mag := range got.Heap.Mags {
				if !slices.Equal(mag, asked.Mags[number]) {
					t.Errorf("the class %d, the processor %d: the magazine %d has %v", class, cpu, number, mag)
				}
			}
			if slots == 2 {
				checkTurned(t, "a slot of a free page", asked, int64(cpu), allocOf(8), 128, withPage(asked, 8, slabOf(3, 0)))
				continue
			}
			wanted := withPage(asked, class, slabOf(class, 0, 1, 2))
			checkTurned(t, "a slot that is not used", asked, int64(cpu), allocOf(slotSizes[class]), int64(16*class)+2*slotSizes[class], wanted)
		}
	}
}

func TestP7ARunIsInNoMagazine(t *testing.T) {
	h := keptOfAll()
	for n := int64(9); n <= 16; n++ {
		checkTurned(t, numbered("OpAlloc of", n), h, 1, allocOf(n), 128, withPage(h, 8, runPage(1)))
	}
}

// TestP7ASlotOfAnotherMagazineIsGivenWhenItIsDropped has a slot of the right class that only the other processor has at hand.
func TestP7ASlotOfAnotherMagazineIsGivenWhenItIsDropped(t *testing.T) {
	h := heapOf(2, slabWithout(3), slabWithout(0))
	h.Mags = [][]int64{{16, 31}, nil, nil, nil, {20}, nil, nil, {8}}
	wanted := heapOf(2, slabWithout(3), slabWithout(0, 0, 4, 15))
	wanted.Words = h.Words
	checkTurned(t, "a slot of the other processor's magazine", h, 0, allocOf(5), 8, wanted)
	own := withMag(withMag(h, 3, 8), 7)
	checkTurned(t, "the same slot in the own magazine", own, 0, allocOf(5), 8, withMag(own, 3))
	cleared := copyHeap(wanted)
	clear(cleared.Words[8:16])
	checkTurned(t, "the slot, cleared", h, 0, zeroOf(8), 8, cleared)
}

func TestP7APageThatADrainMakesFreeIsOfAnotherClass(t *testing.T) {
	h := heapOf(2, slabOf(2, 0, 1, 2, 3), slabWithout(1))
	h.Mags[2], h.Mags[6] = []int64{0, 4}, []int64{8, 12}
	wanted := heapOf(2, slabOf(0, 0), slabWithout(1))
	clear(wanted.Words[:16])
	copy(wanted.Words[16:], h.Words[16:])
	for cpu := range int64(2) {
		checkTurned(t, "a slot where a page becomes free", h, cpu, allocOf(1), 0, wanted)
		wantedRun := withPage(wanted, 0, runPage(1))
		checkTurned(t, "a run where a page becomes free", h, cpu, allocOf(16), 0, wantedRun)
	}
}

func TestP7ARunThatHasRoomOnlyWhenWhatIsKeptIsDropped(t *testing.T) {
	h := heapOf(2, freePage(), slabOf(0, 3), freePage(), slabOf(3, 0, 1), freePage(), slabOf(1, 2))
	h.Mags = [][]int64{nil, {84}, nil, nil, {19}, nil, nil, {48}}
	for name, made := range givers() {
		checkTurned(t, name+" of one page, which is free already", h, 0, made(16), 0, withPage(h, 0, runPage(1)))
		for _, n := range []int64{17, 32, 33, 48} {
			wanted := heapOf(2, freePage(), freePage(), freePage(), slabOf(3, 1), freePage(), freePage())
			copy(wanted.Pages, runOf((n+15)/16))
			wanted.Words = make([]int64, 96)
			copy(wanted.Words[48:64], h.Words[48:64])
			checkTurned(t, numbered(name+" of", n), h, 1, made(n), 0, wanted)
		}
		checkRefused(t, name+" of four pages, which are not there then either", h, 0, made(49), impl.ErrQuota)
	}
}

func TestP7WhereThereIsNoPlaceThenEitherTheHeapIsNotDrained(t *testing.T) {
	h := heapOf(2, slabWithout(3), slabWithout(0))
	h.Mags = [][]int64{{16}, nil, nil, {0}, {20, 31}, nil, nil, nil}
	for name, made := range givers() {
		for _, n := range []int64{2, 3, 4, 9, 16, 17, 32, 33, 64} {
			for cpu := range int64(2) {
				checkRefused(t, numbered(name+" of", n), h, cpu, made(n), impl.ErrQuota)
			}
		}
	}
	for _, live := range []impl.Heap{heapOf(1), heapOf(2), heapOf(2, runOf(4)...), heapOf(1, slabWithout(0), slabWithout(1), slabWithout(2), slabWithout(3)), heapOf(1, slices.Repeat(runOf(4), 10)...)} {
		for n := int64(1); n <= impl.MaxSize; n++ {
			checkRefused(t, "nothing is at hand", live, 0, allocOf(n), impl.ErrQuota)
		}
	}
}

// TestP7AHeapWithRoomIsNotDrained has places at hand that another op would have to give up.
func TestP7AHeapWithRoomIsNotDrained(t *testing.T) {
	h := keptOfAll()
	for n := int64(1); n <= 16; n++ {
		for cpu := range int64(2) {
			got := impl.DoHeap(h, cpu, allocOf(n))
			if kept := len(keptPlaces(got.Heap)); kept < 15 {
				t.Errorf("OpAlloc of %d: just %d places are kept", n, kept)
			}
		}
	}
	got := impl.DoHeap(h, 0, allocOf(17))
	if kept := keptPlaces(got.Heap); got.Reply.Code != impl.OK || len(kept) != 0 || len(got.Heap.Mags) != 8 {
		t.Error("OpAlloc of 17:", got)
	}
}

func TestP7AllWordsOfABlockThatIsAskedForByOpZeroAreZero(t *testing.T) {
	for n := int64(1); n <= impl.MaxSmall; n++ {
		class := slices.IndexFunc(slotSizes, func(size int64) bool { return size >= n })
		size, last := slotSizes[class], slotCounts[class]-1
		free, kept := heapOf(1, slabWithout(3), slabWithout(class, last), slabOf(0, 1)), heapOf(1, slabWithout(3), slabWithout(class), slabOf(0, 1))
		kept.Mags[class] = []int64{32 - size}
		for name, h := range map[string]impl.Heap{"a slot with words in it": free, "a slot out of a magazine": kept} {
			wanted := copyHeap(h)
			wanted.Pages[1], wanted.Mags[class] = slabWithout(class), nil
			checkTurned(t, name+", as it is", h, 0, allocOf(n), 32-size, wanted)
			clear(wanted.Words[32-size : 32])
			checkTurned(t, name+", cleared", h, 0, zeroOf(n), 32-size, wanted)
			for i := range size {
				after := impl.DoHeap(h, 0, zeroOf(n)).Heap
				checkReply(t, name+", read", impl.DoHeap(after, 0, readAt(32-size+i)), impl.Reply{}, after)
			}
		}
	}
	for n := int64(9); n <= impl.MaxSize; n++ {
		h := heapOf(1, append([]impl.Page{slabOf(2, 1)}, freePages(4)...)...)
		wanted := copyHeap(h)
		copy(wanted.Pages[1:], runOf((n+15)/16))
		checkTurned(t, "a run", h, 0, zeroOf(n), 16, wanted)
	}
}

func TestP7ANewBlockIsInNoneThatLived(t *testing.T) {
	given := 0
	for _, h := range rightHeaps() {
		lived := liveHoldings(h)
		for n := int64(1); n <= impl.MaxSize; n++ {
			for cpu := range cpusOf(h) {
				got := impl.DoHeap(h, cpu, allocOf(n))
				if got.Reply.Code != impl.OK {
					continue
				}
				given++
				at := got.Reply.Value
				now := liveHoldings(got.Heap)[at]
				if now.start != at || now.size < n || slices.ContainsFunc(lived[at:at+now.size], func(held holding) bool { return held.size != 0 }) {
					t.Errorf("OpAlloc of %d: the block %v, in the heap %v", n, now, h)
				}
				checkStays(t, numbered("OpAlloc of", n), h, got.Heap, -1)
			}
		}
	}
	if given < 1000 {
		t.Error("just so many blocks were given:", given)
	}
}
