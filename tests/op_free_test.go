package tests

import (
	"slices"
	"testing"

	"loop.example/g00729/impl"
)

func TestP7ASlotThatIsFreedIsKeptAsTheNewestOne(t *testing.T) {
	for class := range slotCounts {
		h := heapOf(2, freePage(), slabWithout(class), slabOf(class, 0, 1))
		at, size := int64(16), slotSizes[class]
		for cpu := range 2 {
			number := 4*cpu + class
			checkTurned(t, "the first one", h, int64(cpu), freeAt(at), 0, withMag(h, number, at))
			for _, kept := range []int64{at + size, 32, 32 + size} {
				checkTurned(t, "the second one", withMag(h, number, kept), int64(cpu), freeAt(at), 0, withMag(h, number, kept, at))
			}
		}
	}
}

func TestP7ASlotIsDroppedWhereTheMagazineIsFull(t *testing.T) {
	for class := range slotCounts {
		h := heapOf(2, freePage(), slabWithout(class), slabOf(class, 0, 1), slabOf(class, 1))
		at, size := int64(16), slotSizes[class]
		for cpu := range 2 {
			full := withMag(h, 4*cpu+class, 32+size, 32)
			wanted := withPage(full, 1, slabWithout(class, 0))
			checkTurned(t, "a slot of a page in which others are used", full, int64(cpu), freeAt(at), 0, wanted)
			last := withPage(full, 3, freePage())
			clear(last.Words[48:])
			checkTurned(t, "the last slot of a page", full, int64(cpu), freeAt(48+size), 0, last)
			other := 1 - cpu
			checkTurned(t, "the other processor has room", full, int64(other), freeAt(at), 0, withMag(full, 4*other+class, at))
		}
	}
}

// TestP7OnlyTheMagazineOfItsClassKeepsASlot has full magazines of all other classes, and of the other processor.
func TestP7OnlyTheMagazineOfItsClassKeepsASlot(t *testing.T) {
	for class := range slotCounts {
		for cpu := range 2 {
			h := keptOfAll()
			h.Pages = append(h.Pages, slabOf(class, 1))
			h.Words = append(h.Words, slices.Repeat([]int64{7}, 16)...)
			at, number := 144+slotSizes[class], 4*cpu+class
			dropped := withPage(h, 9, freePage())
			clear(dropped.Words[144:])
			checkTurned(t, "its own one is full, too", h, int64(cpu), freeAt(at), 0, dropped)
			one, oldest := withMag(h, number, h.Mags[number][0]), h.Mags[number][0]
			one.Pages[number] = slabOf(class, 1)
			checkTurned(t, "only its own one has room", one, int64(cpu), freeAt(at), 0, withMag(one, number, oldest, at))
			checkDone(t, "only its own one has room, and the other processor frees it", one, int64(1-cpu), freeAt(at))
		}
	}
}

func TestP7APageOfWhichAllIsKeptIsNotFree(t *testing.T) {
	h := withMag(heapOf(1, slabOf(3, 0, 1)), 3, 8)
	got := impl.DoHeap(h, 0, freeAt(0))
	checkReply(t, "both blocks of a page are kept", got, impl.Reply{}, withMag(h, 3, 8, 0))
	checkReply(t, "pages that are not free", impl.DoHeap(got.Heap, 0, statsOp()), impl.Reply{Value: 1}, got.Heap)
}

func TestP7ARunIsDropped(t *testing.T) {
	for n := int64(1); n <= impl.MaxRun; n++ {
		h := heapOf(2, slices.Concat([]impl.Page{slabOf(0, 4)}, runOf(n), []impl.Page{slabOf(1, 3)})...)
		wanted := copyHeap(h)
		copy(wanted.Pages[1:], freePages(int(n)))
		clear(wanted.Words[16 : 16+16*n])
		for cpu := range int64(2) {
			checkTurned(t, numbered("a run of", n), h, cpu, freeAt(16), 0, wanted)
		}
		kept := withMag(withMag(h, 0, 4), 5, 16+16*n+6)
		wantedKept := copyHeap(wanted)
		wantedKept.Mags = kept.Mags
		checkTurned(t, numbered("a run of", n), kept, 0, freeAt(16), 0, wantedKept)
	}
}

func TestP7ARunBesideOthersIsDroppedAlone(t *testing.T) {
	h := heapOf(1, slices.Concat(runOf(1), runOf(3), runOf(2), runOf(1))...)
	for _, made := range []struct{ at, end int64 }{{0, 16}, {16, 64}, {64, 96}, {96, 112}} {
		wanted := copyHeap(h)
		copy(wanted.Pages[made.at/16:made.end/16], freePages(4))
		clear(wanted.Words[made.at:made.end])
		checkTurned(t, numbered("the run at", made.at), h, 0, freeAt(made.at), 0, wanted)
	}
}

// aimedOps is each op that wants the place where a block begins, at this place.
func aimedOps(at int64) []impl.Op {
	return []impl.Op{freeAt(at), sizeAt(at), growAt(at, 1), growAt(at, 64)}
}

func TestP7PlacesWhereNoBlockBegins(t *testing.T) {
	h := mixedHeap()
	for _, made := range []struct {
		name   string
		code   int64
		places []int64
	}{
		{"inside of a slot", impl.ErrForm, []int64{35, 47, 97, 99, 105, 217, 223, 281, 283}},
		{"inside of a run", impl.ErrForm, []int64{49, 63, 64, 80, 95, 161, 175, 225, 240, 255, 289, 304, 320, 336, 351}},
		{"in a free page", impl.ErrNone, []int64{0, 1, 15, 128, 143, 144, 159, 256, 271}},
		{"in a slot that is not used", impl.ErrNone, []int64{16, 18, 20, 30, 100, 103, 112, 119, 194, 205}},
		{"where a block begins that is kept", impl.ErrNone, []int64{19, 31, 32, 120, 181, 192, 206, 208, 272, 276}},
		{"inside of a block that is kept", impl.ErrNone, []int64{33, 121, 127, 193, 207, 209, 215, 273, 275, 277, 279}},
		{"out of range", impl.ErrRange, []int64{-1, -16, 352, 353, 368, 640, 1 << 32, 1<<32 + 48, -1 << 32, greatest, greatest - 15, least, least + 48}},
	} {
		for _, at := range made.places {
			for cpu := range int64(2) {
				for _, o := range aimedOps(at) {
					checkRefused(t, numbered(made.name+", the place", at), h, cpu, o, made.code)
				}
			}
		}
	}
}

func TestP7PlacesOfAHeapWithoutPages(t *testing.T) {
	for _, at := range []int64{0, 1, -1, 15, 16, greatest, least} {
		for _, o := range append(aimedOps(at), readAt(at), writeAt(at, 1)) {
			checkRefused(t, "no pages", heapOf(1), 0, o, impl.ErrRange)
		}
	}
}

func TestP7WhatWasFreedDoesNotLive(t *testing.T) {
	for _, h := range []impl.Heap{mixedHeap(), heapOf(2, mixedPages()...), fullHeap()} {
		for _, at := range liveStarts(h) {
			for cpu := range int64(2) {
				after := checkDone(t, "freed", h, cpu, freeAt(at)).Heap
				checkStays(t, "freed", h, after, at)
				if lives := liveStarts(after); slices.Contains(lives, at) || len(lives) != len(liveStarts(h))-1 {
					t.Errorf("the block at %d was freed: these live: %v", at, lives)
				}
				for _, o := range append(aimedOps(at), readAt(at), writeAt(at, 1)) {
					for again := range int64(2) {
						checkRefused(t, numbered("freed already, the place", at), after, again, o, impl.ErrNone)
					}
				}
			}
		}
	}
}

// TestP7WhatIsFreedIsGivenAgain has room in the magazines, so that the newest block is given first.
func TestP7WhatIsFreedIsGivenAgain(t *testing.T) {
	for class, slots := range slotCounts {
		h := heapOf(2, slabWithout(class), slabWithout(class))
		for cpu := range int64(2) {
			for _, places := range [][2]int64{{0, 16}, {16, 0}, {16 - slotSizes[class], 0}, {0, int64(slots-1) * slotSizes[class]}} {
				h1 := impl.DoHeap(h, cpu, freeAt(places[0])).Heap
				h2 := impl.DoHeap(h1, cpu, freeAt(places[1])).Heap
				checkReply(t, "the newest one", impl.DoHeap(h2, cpu, allocOf(slotSizes[class])), impl.Reply{Value: places[1]}, h1)
				checkReply(t, "the oldest one", impl.DoHeap(h1, cpu, allocOf(slotSizes[class])), impl.Reply{Value: places[0]}, h)
			}
		}
	}
}
