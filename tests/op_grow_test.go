package tests

import (
	"slices"
	"testing"

	"loop.example/g00729/impl"
)

// moved is a copy of h with the words from one place on laid at another one.
func moved(h impl.Heap, from, to, size int64) impl.Heap {
	changed := copyHeap(h)
	copy(changed.Words[to:to+size], h.Words[from:from+size])
	return changed
}

func TestP7ABlockThatHasSoManyWordsStays(t *testing.T) {
	for _, h := range []impl.Heap{mixedHeap(), heapOf(1, mixedPages()...), fullHeap()} {
		blocks := holdingsOf(h.Pages)
		for _, at := range liveStarts(h) {
			for n := int64(1); n <= blocks[at].size; n++ {
				for cpu := range cpusOf(h) {
					checkReply(t, numbered("OpGrow to", n), impl.DoHeap(h, cpu, growAt(at, n)), impl.Reply{Value: at}, h)
				}
			}
		}
	}
}

func TestP7ASlotGrowsToTheNextClass(t *testing.T) {
	for class := range 3 {
		size := slotSizes[class]
		h := heapOf(2, slabOf(class, 1, 3), freePage())
		for n := size + 1; n <= 2*size; n++ {
			for cpu := range 2 {
				wanted := moved(withPage(h, 1, slabOf(class+1, 0)), size, 16, size)
				wanted.Mags[4*cpu+class] = []int64{size}
				checkTurned(t, "to a slot of a free page", h, int64(cpu), growAt(size, n), 16, wanted)
			}
		}
	}
}

func TestP7ASlotGrowsIntoOneThatIsAtHand(t *testing.T) {
	h := heapOf(2, slabOf(1, 0, 5), slabOf(3, 0, 1), slabOf(2, 0, 1), freePage())
	h.Mags = [][]int64{nil, {0}, {36, 32}, {24, 16}, nil, nil, nil, nil}
	wanted := moved(h, 10, 16, 2)
	wanted.Mags = [][]int64{nil, {0, 10}, {36, 32}, {24}, nil, nil, nil, nil}
	checkTurned(t, "to 8 words", h, 0, growAt(10, 8), 16, wanted)
	wanted = moved(h, 10, 32, 2)
	wanted.Mags = [][]int64{nil, {0, 10}, {36}, {24, 16}, nil, nil, nil, nil}
	checkTurned(t, "to 3 words", h, 0, growAt(10, 3), 32, wanted)
	wanted = moved(withPage(h, 3, slabOf(3, 0)), 10, 48, 2)
	wanted.Mags[5] = []int64{10}
	checkTurned(t, "to 8 words, for the other processor", h, 1, growAt(10, 8), 48, wanted)
}

func TestP7ASlotGrowsToARun(t *testing.T) {
	for class, size := range slotSizes {
		h := heapOf(1, append([]impl.Page{slabOf(0, 7), slabOf(class, 1)}, freePages(4)...)...)
		at := 16 + size
		for n := int64(9); n <= impl.MaxSize; n++ {
			wanted := moved(h, at, 32, size)
			copy(wanted.Pages[2:], runOf((n+15)/16))
			wanted.Mags[class] = []int64{at}
			checkTurned(t, numbered("a slot, to", n), h, 0, growAt(at, n), 32, wanted)
		}
	}
}

func TestP7ARunGrowsToALongerOne(t *testing.T) {
	for old := int64(1); old <= 3; old++ {
		for n := 16*old + 1; n <= impl.MaxSize; n++ {
			h := heapOf(2, slices.Concat([]impl.Page{slabOf(1, 1)}, runOf(old), freePages(3), runOf(2), freePages(4))...)
			pages := (n + 15) / 16
			at := 16 * (1 + old)
			if pages == 4 {
				at = 16 * (1 + old + 3 + 2)
			}
			wanted := moved(h, 16, at, 16*old)
			copy(wanted.Pages[at/16:], runOf(pages))
			copy(wanted.Pages[1:], freePages(int(old)))
			clear(wanted.Words[16 : 16+16*old])
			checkTurned(t, numbered("a run, to", n), h, 1, growAt(16, n), at, wanted)
		}
	}
}

// TestP7ARunDoesNotGrowWhereItStands has room for the longer run only together with the old one.
func TestP7ARunDoesNotGrowWhereItStands(t *testing.T) {
	checkRefused(t, "one page behind it is free", heapOf(1, runPage(1), freePage()), 0, growAt(0, 17), impl.ErrQuota)
	checkRefused(t, "pages before and behind it are free", heapOf(1, freePage(), runPage(1), freePage()), 0, growAt(16, 32), impl.ErrQuota)
	h := heapOf(1, append(runOf(2), freePages(2)...)...)
	checkRefused(t, "two pages behind it are free", h, 0, growAt(0, 33), impl.ErrQuota)
	checkRefused(t, "two pages behind it are free", h, 0, growAt(0, 64), impl.ErrQuota)
}

func TestP7OneWordMoreThanABlockHas(t *testing.T) {
	h := heapOf(2, slices.Concat([]impl.Page{slabOf(0, 2), slabOf(1, 2), slabOf(2, 2), slabOf(3, 1)}, runOf(1), runOf(2), runOf(3), runOf(4), freePages(4))...)
	for _, made := range []struct{ at, size, to int64 }{{2, 1, 16}, {20, 2, 32}, {40, 4, 48}, {56, 8, 224}, {64, 16, 224}, {80, 32, 224}, {112, 48, 224}} {
		checkReply(t, numbered("as many words as the block has, at", made.at), impl.DoHeap(h, 0, growAt(made.at, made.size)), impl.Reply{Value: made.at}, h)
		got := checkDone(t, numbered("one word more, at", made.at), h, 0, growAt(made.at, made.size+1))
		if got.Reply.Value != made.to || !slices.Equal(got.Heap.Words[made.to:made.to+made.size], h.Words[made.at:made.at+made.size]) {
			t.Errorf("the block at %d: %v", made.at, got)
		}
	}
	checkReply(t, "as many words as there may be", impl.DoHeap(h, 0, growAt(160, 64)), impl.Reply{Value: 160}, h)
	checkRefused(t, "more words than there may be", h, 0, growAt(160, 65), impl.ErrRange)
}

// TestP7TheOldBlockIsFreed has room without a drain, so that a full magazine stays full.
func TestP7TheOldBlockIsFreed(t *testing.T) {
	h := heapOf(2, slabOf(1, 4), slabOf(1, 0, 1, 2), freePage())
	h.Mags[1] = []int64{16, 18}
	wanted := moved(h, 8, 32, 2)
	wanted.Pages = []impl.Page{freePage(), slabOf(1, 0, 1, 2), slabOf(2, 0)}
	clear(wanted.Words[:16])
	checkTurned(t, "the last slot of a page, the magazine is full", h, 0, growAt(8, 3), 32, wanted)
	wanted = moved(withPage(withPage(h, 1, slabOf(1, 0, 1)), 2, runPage(1)), 20, 32, 2)
	checkTurned(t, "a slot beside others, the magazine is full", h, 0, growAt(20, 9), 32, wanted)
	wanted = moved(withPage(h, 2, slabOf(3, 0)), 8, 32, 2)
	wanted.Mags[5] = []int64{8}
	checkTurned(t, "the other processor's magazine has room", h, 1, growAt(8, 5), 32, wanted)
	one := withMag(h, 1, 18)
	one.Pages[1] = slabOf(1, 1, 2)
	wanted = moved(withPage(one, 2, slabOf(2, 0)), 8, 32, 2)
	wanted.Mags[1] = []int64{18, 8}
	checkTurned(t, "the magazine has room for one", one, 0, growAt(8, 4), 32, wanted)
}

func TestP7WhereOnlyADrainMakesRoomToGrow(t *testing.T) {
	h := heapOf(2, slabWithout(3), slabOf(1, 0, 3, 7))
	h.Mags = [][]int64{nil, {16, 22}, nil, nil, nil, nil, nil, {8}}
	wanted := moved(h, 30, 8, 2)
	wanted.Pages[1] = slabOf(1, 7)
	wanted.Mags = [][]int64{nil, {30}, nil, nil, nil, nil, nil, nil}
	checkTurned(t, "to a slot, and the full magazine was drained", h, 0, growAt(30, 8), 8, wanted)
	own := withMag(withMag(h, 7), 3, 8)
	wanted.Mags = [][]int64{nil, nil, nil, nil, nil, {30}, nil, nil}
	checkTurned(t, "to a slot of the other processor", own, 1, growAt(30, 5), 8, wanted)

	h = heapOf(1, slabOf(0, 9), slabOf(2, 1, 2), slabOf(0, 3, 5))
	h.Mags = [][]int64{{35, 37}, nil, {20}, nil}
	wanted = moved(h, 24, 32, 4)
	wanted.Pages = []impl.Page{slabOf(0, 9), slabOf(2, 2), runPage(1)}
	clear(wanted.Words[36:])
	wanted.Mags = [][]int64{nil, nil, {24}, nil}
	checkTurned(t, "from a slot to a run, all of a page is dropped", h, 0, growAt(24, 9), 32, wanted)

	h = heapOf(1, runPage(1), slabOf(3, 0, 1), freePage())
	h.Mags = [][]int64{nil, nil, nil, {24, 16}}
	wanted = moved(h, 0, 16, 16)
	wanted.Pages = append(freePages(1), runOf(2)...)
	clear(wanted.Words[:16])
	wanted.Mags = make([][]int64, 4)
	checkTurned(t, "from a run to a longer one", h, 0, growAt(0, 17), 16, wanted)
}

func TestP7WhereThereIsNoRoomToGrow(t *testing.T) {
	h := heapOf(2, slabWithout(3), slabOf(1, 0, 3, 7))
	h.Mags = [][]int64{nil, {16}, nil, nil, nil, {22}, nil, {8}}
	for cpu := range int64(2) {
		for _, n := range []int64{3, 4, 9, 16, 17, 64} {
			checkRefused(t, numbered("OpGrow to", n), h, cpu, growAt(30, n), impl.ErrQuota)
		}
		checkRefused(t, "OpGrow of 8 words", h, cpu, growAt(0, 9), impl.ErrQuota)
		checkReply(t, "OpGrow to what the block has", impl.DoHeap(h, cpu, growAt(0, 8)), impl.Reply{Value: 0}, h)
	}
	// The old block is not free until the new one is found: no block grows into its own page.
	checkRefused(t, "the page of the block alone", heapOf(1, slabOf(0, 0)), 0, growAt(0, 2), impl.ErrQuota)
	checkRefused(t, "a block beside one that is kept", withMag(heapOf(1, slabOf(0, 0, 1)), 0, 1), 0, growAt(0, 2), impl.ErrQuota)
}

func TestP7EachBlockGrows(t *testing.T) {
	grown, refused := 0, 0
	for _, h := range rightHeaps() {
		words := liveWords(h)
		for i, at := range liveStarts(h) {
			for n := 1 + int64(i%7); n <= impl.MaxSize; n += 7 {
				cpu := n % cpusOf(h)
				got := checkDone(t, numbered("OpGrow to", n), h, cpu, growAt(at, n))
				if got.Reply.Code != impl.OK {
					refused++
					continue
				}
				checkStays(t, numbered("OpGrow to", n), h, got.Heap, at)
				if now := liveWords(got.Heap)[got.Reply.Value]; int64(len(now)) < n || !slices.Equal(now[:len(words[at])], words[at]) {
					t.Errorf("OpGrow of %v to %d: %v", words[at], n, now)
				}
				grown++
			}
		}
	}
	if grown < 1000 || refused < 1000 {
		t.Error("too few blocks were grown, or refused:", grown, refused)
	}
}
