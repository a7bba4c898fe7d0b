package tests

import (
	"slices"
	"testing"

	"loop.example/g00729/impl"
)

// checkLive holds what lives and what is kept against what is worked out apart from the program.
func checkLive(t *testing.T, h impl.Heap) {
	t.Helper()
	for at, held := range liveHoldings(h) {
		got := impl.LiveAt(h, int64(at))
		if held.size == 0 {
			checkNoValue(t, numbered("LiveAt", int64(at)), got, impl.ErrNone)
		} else {
			checkValue(t, numbered("LiveAt", int64(at)), got, held.start)
		}
	}
	count := int64(len(h.Words))
	for _, at := range append(outside(0, count-1), count+impl.PageWords, -impl.PageWords) {
		checkNoValue(t, numbered("LiveAt", at), impl.LiveAt(h, at), impl.ErrRange)
	}
	checkList(t, "LiveBlocks", impl.LiveBlocks(h), liveStarts(h))
	checkValue(t, "HeldIn", impl.HeldIn(h), int64(len(keptPlaces(h))))
}

func TestP6LiveAtByItsNumbers(t *testing.T) {
	h := mixedHeap()
	for _, made := range []struct{ at, start int64 }{
		{34, 34}, {35, 34}, {47, 46}, {48, 48}, {63, 48}, {64, 48}, {95, 48}, {96, 96}, {99, 96}, {104, 104}, {160, 160}, {175, 160},
		{176, 176}, {180, 180}, {182, 182}, {191, 191}, {216, 216}, {223, 216}, {224, 224}, {255, 224}, {280, 280}, {288, 288}, {351, 288},
	} {
		checkValue(t, numbered("LiveAt", made.at), impl.LiveAt(h, made.at), made.start)
	}
	free, unused := []int64{0, 15, 128, 143, 159, 256, 271}, []int64{16, 18, 20, 30, 100, 103, 112, 119, 194, 205}
	kept := []int64{19, 31, 32, 33, 120, 121, 127, 181, 192, 193, 206, 207, 208, 215, 272, 275, 276, 279}
	for _, at := range slices.Concat(free, unused, kept) {
		checkNoValue(t, numbered("LiveAt", at), impl.LiveAt(h, at), impl.ErrNone)
	}
	for _, at := range []int64{-1, -16, 352, 353, greatest, least} {
		checkNoValue(t, numbered("LiveAt", at), impl.LiveAt(h, at), impl.ErrRange)
	}
	checkLive(t, h)
}

func TestP6LiveAtFarAway(t *testing.T) {
	for _, h := range []impl.Heap{heapOf(1), heapOf(2, freePages(1)...), mixedHeap(), fullHeap(), heapOf(1, slices.Repeat([]impl.Page{slabWithout(0)}, impl.MaxPages)...)} {
		for _, at := range farOutside(0, impl.MaxPages*impl.PageWords) {
			if at < 0 || at >= int64(len(h.Words)) {
				checkNoValue(t, numbered("LiveAt", at), impl.LiveAt(h, at), impl.ErrRange)
			}
		}
	}
}

func TestP6NothingLivesWithoutPages(t *testing.T) {
	for cpus := 1; cpus <= impl.MaxCpus; cpus++ {
		checkList(t, "LiveBlocks", impl.LiveBlocks(heapOf(cpus)), nil)
		checkValue(t, "HeldIn", impl.HeldIn(heapOf(cpus)), 0)
		for _, at := range []int64{0, 1, -1, 15, 16, greatest, least} {
			checkNoValue(t, numbered("LiveAt", at), impl.LiveAt(heapOf(cpus), at), impl.ErrRange)
		}
	}
}

func TestP6NothingLivesInFreePages(t *testing.T) {
	for count := 1; count <= impl.MaxPages; count++ {
		h := heapOf(1, freePages(count)...)
		checkList(t, "LiveBlocks", impl.LiveBlocks(h), nil)
		checkLive(t, h)
	}
}

// TestP6ASlotLivesJustIfItIsNotKept puts each slot of each class in a magazine of each processor.
func TestP6ASlotLivesJustIfItIsNotKept(t *testing.T) {
	for class, slots := range slotCounts {
		h := heapOf(2, freePage(), slabWithout(class), runPage(1))
		checkLive(t, h)
		for slot := range slots {
			start := impl.PageWords + slotSizes[class]*int64(slot)
			for cpu := range impl.MaxCpus {
				kept := withMag(h, 4*cpu+class, start)
				checkLive(t, kept)
				for at := start; at < start+slotSizes[class]; at++ {
					checkValue(t, "LiveAt of a slot that is used", impl.LiveAt(h, at), start)
					checkNoValue(t, "LiveAt of a slot that is kept", impl.LiveAt(kept, at), impl.ErrNone)
				}
			}
		}
	}
}

func TestP6ABlockOfTheSameNumberInAnotherPageLives(t *testing.T) {
	for class := range slotCounts {
		h := heapOf(1, slabOf(class, 0), slabOf(class, 0), slabOf(class, 0))
		checkList(t, "the middle one is kept", impl.LiveBlocks(withMag(h, class, 16)), []int64{0, 32})
		checkList(t, "the last one is kept", impl.LiveBlocks(withMag(h, class, 32)), []int64{0, 16})
		checkList(t, "both of them are kept", impl.LiveBlocks(withMag(h, class, 32, 16)), []int64{0})
		checkList(t, "none is kept", impl.LiveBlocks(h), []int64{0, 16, 32})
	}
}

func TestP6LiveBlocksByTheirNumbers(t *testing.T) {
	h := heapOf(2, slabWithout(3), slabOf(1, 2, 7), freePage(), slabWithout(2, 1))
	h.Pages = append(h.Pages, runOf(3)...)
	h.Words = append(h.Words, heapOf(1, runOf(3)...).Words...)
	checkList(t, "all of them", impl.LiveBlocks(h), []int64{0, 8, 20, 30, 48, 56, 60, 64})
	h.Mags = [][]int64{nil, {30}, {48}, {8}, nil, {20}, {60}, {0}}
	checkList(t, "those that are not kept", impl.LiveBlocks(h), []int64{56, 64})
	checkValue(t, "those that are", impl.HeldIn(h), 6)
}

func TestP6HeldInCountsAllMagazines(t *testing.T) {
	checkValue(t, "none", impl.HeldIn(heapOf(2, fullHeap().Pages...)), 0)
	checkValue(t, "all", impl.HeldIn(fullHeap()), 16)
	checkValue(t, "some", impl.HeldIn(mixedHeap()), 10)
	for number := range 8 {
		one, two, fewer := heapOf(2, fullHeap().Pages...), heapOf(2, fullHeap().Pages...), fullHeap()
		one.Mags[number] = fullHeap().Mags[number][:1]
		two.Mags[number] = fullHeap().Mags[number]
		fewer.Mags[number] = nil
		checkValue(t, numbered("one, in the magazine", int64(number)), impl.HeldIn(one), 1)
		checkValue(t, numbered("two, in the magazine", int64(number)), impl.HeldIn(two), 2)
		checkValue(t, numbered("all but those in the magazine", int64(number)), impl.HeldIn(fewer), 14)
	}
}
