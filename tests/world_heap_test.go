package tests

import (
	"slices"
	"testing"

	"loop.example/g00729/impl"
)

// outsideWorld is no world that events lead to: nobody's frames are asked there, and nothing of a heap.
func outsideWorld() impl.World {
	pages := []impl.Page{strangePage(), slabOf(3, 0), freePage(), restPage(), runPage(9)}
	return impl.World{
		Words: testArena(4),
		Tenants: []impl.TenantState{
			{Alive: true, Pages: pages, Mags: [][]int64{{greatest, 3, 3}, nil, {least}}, Table: tableOf(-9, 3, -1, 0, 3, 2), Tickets: []int64{7, 7, -1}, Cpus: []impl.Cpu{{Steps: -5, Op: impl.Op{Kind: 99}}}},
			{Pages: freePages(1), Mags: [][]int64{{5}}, Table: tableOf(1, 0), Tickets: []int64{0}, Cpus: []impl.Cpu{{Busy: true}}},
			{Alive: true, Table: tableOf(greatest)},
		},
		Replies: []impl.EventReply{{Code: -4, Waited: least}},
	}
}

// withTenant is a copy of w with one tenant of it replaced.
func withTenant(w impl.World, tenant int, state impl.TenantState) impl.World {
	changed := copyWorld(w)
	changed.Tenants[tenant] = state
	return changed
}

// laidWorld is a world with one tenant that has so many free pages with these frames.
func laidWorld(words []int64, pages int, frames ...int64) impl.World {
	return impl.World{Words: words, Tenants: []impl.TenantState{{Alive: true, Pages: freePages(pages), Table: tableOf(0, frames...)}}}
}

// checkHeapOf wants OK, and the heap of the tenant with its words laid word by word, apart from the program.
func checkHeapOf(t *testing.T, name string, w impl.World, tenant int64) {
	t.Helper()
	state, got := w.Tenants[tenant], impl.HeapOf(w, tenant)
	wanted := impl.Heap{Pages: state.Pages, Mags: state.Mags, Words: wantedGathered(state.Table, w.Words)}
	if got.Code != impl.OK || got.Reply != (impl.Reply{}) || !equalHeaps(got.Heap, wanted) {
		t.Errorf("%s:\ngot    %v\nwanted %v", name, got, wanted)
	}
}

func TestP9HeapOfTenantsOfAWorld(t *testing.T) {
	w := checkWorld(t, "pairEvents", pairConfig(), pairEvents())
	first := heapOf(2, append(runOf(2), slabOf(0, 0))...)
	clear(first.Words)
	first.Words[0], first.Words[31], first.Words[32] = 7, -8, 9
	first.Mags[4] = []int64{32}
	checkHeap(t, "the first one", impl.HeapOf(w, 0), first)
	second := heapOf(2, slabOf(2, 0), slabOf(3, 0, 1), freePage(), freePage())
	clear(second.Words)
	second.Words[2], second.Words[16] = 11, 12
	second.Mags[7] = []int64{24}
	checkHeap(t, "the second one", impl.HeapOf(w, 1), second)
	checkNoHeap(t, "one that is not alive", impl.HeapOf(w, 2), impl.ErrNone)
}

func TestP9HeapOfATenantThatIsNone(t *testing.T) {
	for count := range 6 {
		w := impl.World{Words: testArena(1), Tenants: slices.Repeat([]impl.TenantState{{Alive: true}}, count)}
		for _, tenant := range []int64{-1, -2, int64(count), int64(count) + 1, 1 << 8, 1 << 32, -1 << 32, 1<<32 + 1, greatest, least} {
			checkNoHeap(t, numbered("the tenant", tenant), impl.HeapOf(w, tenant), impl.ErrNone)
			checkNoHeap(t, "of words that are no whole frames", impl.HeapOf(impl.World{Words: make([]int64, 7), Tenants: w.Tenants}, tenant), impl.ErrNone)
		}
		for tenant := range int64(count) {
			checkHeapOf(t, "a tenant without pages", w, tenant)
		}
	}
	checkNoHeap(t, "of no world", impl.HeapOf(impl.World{}, 0), impl.ErrNone)
}

func TestP9HeapOfATenantThatIsNotAlive(t *testing.T) {
	for tenant := range int64(3) {
		w := outsideWorld()
		w.Tenants[tenant].Alive = false
		checkNoHeap(t, "not alive", impl.HeapOf(w, tenant), impl.ErrNone)
		w.Words = w.Words[:9]
		checkNoHeap(t, "not alive, and no whole frames", impl.HeapOf(w, tenant), impl.ErrNone)
		w.Tenants[tenant].Table = tableOf(0, greatest, greatest)
		checkNoHeap(t, "not alive, and a table that does not fit", impl.HeapOf(w, tenant), impl.ErrNone)
	}
}

func TestP9HeapOfAWorldFromOutside(t *testing.T) {
	w := outsideWorld()
	checkHeapOf(t, "nothing is asked of its heap", w, 0)
	checkHeapOf(t, "no pages", w, 2)
	w.Words = slices.Repeat([]int64{greatest, least}, 32)
	checkHeapOf(t, "words that are none", w, 0)
	w.Words = testArena(100)
	checkHeapOf(t, "very many frames", w, 0)
	w.Tenants[0].Table.Frames[1] = 99
	checkHeapOf(t, "the last one of very many frames", w, 0)
	checkHeapOf(t, "very many pages", laidWorld(testArena(3), 1000, slices.Repeat([]int64{2, -1, 0, 1}, 250)...), 0)
	checkHeapOf(t, "no words", laidWorld(nil, 3, -1, -1, -1), 0)
}

func TestP9HeapOfWordsThatAreNoWholeFrames(t *testing.T) {
	for count := range 100 {
		for _, frames := range [][]int64{nil, {-1}, {-1, -1, -1}} {
			w := laidWorld(make([]int64, count), len(frames), frames...)
			if count%16 == 0 {
				checkHeapOf(t, numbered("so many words:", int64(count)), w, 0)
			} else {
				checkNoHeap(t, numbered("so many words:", int64(count)), impl.HeapOf(w, 0), impl.ErrForm)
			}
		}
	}
}

func TestP9HeapOfATableThatIsNotOfThePages(t *testing.T) {
	for pages := range 45 {
		for count := range 45 {
			for _, frame := range []int64{-1, 0, 1} {
				w := laidWorld(testArena(2), pages, slices.Repeat([]int64{frame}, count)...)
				if pages == count {
					checkHeapOf(t, "as many frames as pages", w, 0)
				} else {
					checkNoHeap(t, "another number of frames", impl.HeapOf(w, 0), impl.ErrForm)
				}
			}
		}
	}
	w := impl.RunWorld(pairConfig(), pairEvents()).World
	for tenant := range int64(2) {
		state := w.Tenants[tenant]
		last := len(state.Table.Frames) - 1
		for _, frames := range [][]int64{nil, state.Table.Frames[:last], state.Table.Frames[1:], append(slices.Clone(state.Table.Frames), -1), append(slices.Clone(state.Table.Frames), 2)} {
			other := copyState(state)
			other.Table.Frames = frames
			checkNoHeap(t, "a frame less or more", impl.HeapOf(withTenant(w, int(tenant), other), tenant), impl.ErrForm)
		}
	}
}

func TestP9HeapOfFramesThatAreNone(t *testing.T) {
	for count := range int64(6) {
		for pages := 1; pages <= 3; pages++ {
			for page := range pages {
				bare := slices.Repeat([]int64{-1}, pages)
				for frame := int64(-1); frame < count; frame++ {
					checkHeapOf(t, numbered("the frame", frame), laidWorld(make([]int64, 16*count), pages, withWord(bare, page, frame)...), 0)
				}
				for _, frame := range append(noFrames(count), -2, -3, count+16, -1<<32, 1<<8) {
					if frame < -1 || frame >= count {
						checkNoHeap(t, numbered("the frame", frame), impl.HeapOf(laidWorld(make([]int64, 16*count), pages, withWord(bare, page, frame)...), 0), impl.ErrForm)
					}
				}
			}
		}
	}
}

func TestP9HeapOfPagesWithAndWithoutFrames(t *testing.T) {
	words := testArena(3)
	lists := [][]int64{nil}
	for range 4 {
		var longer [][]int64
		for _, list := range lists {
			for frame := int64(-1); frame < 3; frame++ {
				longer = append(longer, append(slices.Clone(list), frame))
			}
		}
		for _, list := range longer {
			checkHeapOf(t, "pages with and without frames", laidWorld(words, len(list), list...), 0)
		}
		lists = longer
	}
	got := impl.HeapOf(laidWorld(words, 3, 2, -1, 0), 0).Heap.Words
	checkList(t, "zeros in between", impl.IntsResult{List: got}, slices.Concat(words[32:], make([]int64, 16), words[:16]))
}
