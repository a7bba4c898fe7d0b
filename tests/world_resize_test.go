package tests

import (
	"slices"
	"testing"

	"loop.example/g00729/impl"
)

// checkResized wants the tenant's heap to be what ResizeHeap tells of the one ahead, and gives the world.
func checkResized(t *testing.T, name string, c impl.Config, events []impl.Event, tenant, pages int64) impl.World {
	t.Helper()
	before := impl.HeapOf(impl.RunWorld(c, events).World, tenant)
	wanted := impl.ResizeHeap(before.Heap, pages)
	if before.Code != impl.OK || wanted.Code != impl.OK {
		t.Fatalf("%s: the codes %d and %d", name, before.Code, wanted.Code)
	}
	w := checkReplies(t, name, c, append(slices.Clone(events), resizeOf(tenant, pages)), impl.EventReply{})
	checkHeap(t, name, impl.HeapOf(w, tenant), wanted.Heap)
	if int64(len(w.Tenants[tenant].Pages)) != pages || int64(len(w.Tenants[tenant].Table.Frames)) != pages {
		t.Errorf("%s: %d pages, and %d frames", name, len(w.Tenants[tenant].Pages), len(w.Tenants[tenant].Table.Frames))
	}
	return w
}

func TestP9ANewHeapOfEachSizeIsResizedToEachSize(t *testing.T) {
	for before := int64(1); before <= 4; before++ {
		for after := int64(1); after <= 4; after++ {
			w := checkResized(t, "no page is used", pairConfig(), []impl.Event{createOf(1, before)}, 1, after)
			wanted := impl.TenantState{Alive: true, Pages: freePages(int(after)), Mags: make([][]int64, 8), Table: bareTable(1, int(after)), Cpus: make([]impl.Cpu, 2)}
			if !equalStates(w.Tenants[1], wanted) {
				t.Errorf("the tenant is %v, wanted %v", w.Tenants[1], wanted)
			}
		}
	}
	w := checkResized(t, "as many pages as there may be", wideConfig(), []impl.Event{createOf(0, 1)}, 0, impl.MaxPages)
	checkList(t, "the frames", impl.IntsResult{List: w.Tenants[0].Table.Frames}, bareTable(0, impl.MaxPages).Frames)
}

func TestP9AResizeToMorePages(t *testing.T) {
	events := append([]impl.Event{createOf(0, 2)}, doneBy(0, 0, allocOf(3), allocOf(16), writeAt(3, 5), writeAt(31, 6))...)
	w := checkResized(t, "two pages more", pairConfig(), events, 0, 4)
	if !equalTables(w.Tenants[0].Table, tableOf(0, 0, 3, -1, -1)) {
		t.Error("the table is", w.Tenants[0].Table)
	}
	checkWordsAt(t, "the first page", w, 0, 0, 0, 0, 5)
	more := append(append(events, resizeOf(0, 4)), doneBy(0, 1, allocOf(32), writeAt(63, 7))...)
	w = checkFrames(t, "the new pages are used", pairConfig(), more, 0, 0, 3, 6, 9)
	checkWordsAt(t, "the last page", w, 9, 0, 0, 0, 0, 0, 0, 0, 0, 0, 0, 0, 0, 0, 0, 0, 7)
	checkTurnsNothing(t, "one page more than there is room for", pairConfig(), more, resizeOf(0, 5), impl.ErrRange)
}

func TestP9AResizeToFewerPages(t *testing.T) {
	events := append([]impl.Event{createOf(1, 4)}, doneBy(1, 0, allocOf(16), allocOf(16), writeAt(0, 5), writeAt(31, 6))...)
	for _, pages := range []int64{3, 2} {
		w := checkResized(t, "free pages are gone", pairConfig(), events, 1, pages)
		if !slices.Equal(w.Tenants[1].Table.Frames, []int64{1, 4, -1}[:pages]) {
			t.Error("the table is", w.Tenants[1].Table)
		}
		checkWordsAt(t, "the first page", w, 1, 5)
	}
	checkTurnsNothing(t, "a page that is used would be gone", pairConfig(), events, resizeOf(1, 1), impl.ErrState)
	holed := append(events, doneBy(1, 0, freeAt(0))...)
	checkTurnsNothing(t, "a page that is used behind one that is free", pairConfig(), holed, resizeOf(1, 1), impl.ErrState)
	w := checkResized(t, "the page ahead is free", pairConfig(), holed, 1, 2)
	if !equalTables(w.Tenants[1].Table, tableOf(1, -1, 4)) {
		t.Error("the table is", w.Tenants[1].Table)
	}
	run := append([]impl.Event{createOf(1, 4)}, doneBy(1, 0, allocOf(33))...)
	checkResized(t, "the pages of a run", pairConfig(), run, 1, 3)
	for pages := int64(1); pages < 3; pages++ {
		checkTurnsNothing(t, "a part of a run would be gone", pairConfig(), run, resizeOf(1, pages), impl.ErrState)
	}
}

// atHand is events behind which the tenant 0 has a slot that lives in its first page, and the other pages hold just what is kept at hand.
func atHand() []impl.Event {
	events := append([]impl.Event{createOf(0, 4)}, doneBy(0, 0, allocOf(8), allocOf(4), allocOf(2), allocOf(1))...)
	events = append(events, doneBy(0, 1, writeAt(0, 1), writeAt(16, 2), writeAt(32, 3), writeAt(48, 4))...)
	return append(events, doneBy(0, 1, freeAt(48), freeAt(16), freeAt(32))...)
}

func TestP9AResizeDropsWhatIsKeptAtHand(t *testing.T) {
	w := checkFrames(t, "kept at hand", pairConfig(), atHand(), 0, 0, 3, 6, 9)
	for i, frame := range []int64{0, 3, 6, 9} {
		checkWordsAt(t, "a page with what is kept", w, frame, int64(i)+1)
	}
	for pages := int64(1); pages <= 4; pages++ {
		w := checkResized(t, numbered("so many pages:", pages), pairConfig(), atHand(), 0, pages)
		state := w.Tenants[0]
		if frames := append([]int64{0}, slices.Repeat([]int64{-1}, int(pages)-1)...); !equalTables(state.Table, tableOf(0, frames...)) {
			t.Error("the table is", state.Table)
		}
		if !equalHeaps(impl.Heap{Mags: state.Mags}, impl.Heap{Mags: make([][]int64, 8)}) {
			t.Error("the magazines are", state.Mags)
		}
		checkWordsAt(t, "the page that is used", w, 0, 1)
		for _, frame := range []int64{3, 6, 9} {
			checkWordsAt(t, "a page that became free, or is gone", w, frame)
		}
	}
}

func TestP9AResizeThatIsRefusedDropsNothing(t *testing.T) {
	events := append([]impl.Event{createOf(0, 3)}, doneBy(0, 0, allocOf(8), allocOf(4), allocOf(2), writeAt(16, 9), freeAt(16), freeAt(0))...)
	checkTurnsNothing(t, "the last page is used", pairConfig(), events, resizeOf(0, 2), impl.ErrState)
	checkTurnsNothing(t, "the last page is used", pairConfig(), events, resizeOf(0, 1), impl.ErrState)
	checkFrames(t, "what is at hand stays", pairConfig(), append(events, resizeOf(0, 1)), 0, 0, 3, 6)
	w := checkResized(t, "the same number of pages", pairConfig(), events, 0, 3)
	if !equalTables(w.Tenants[0].Table, tableOf(0, -1, -1, 6)) {
		t.Error("the table is", w.Tenants[0].Table)
	}
	// The frames that became free are those that the next pages get.
	again := append(append(events, resizeOf(0, 3)), doneBy(0, 1, allocOf(32))...)
	checkFrames(t, "a run behind it", pairConfig(), again, 0, 0, 3, 6)
}

func TestP9AResizeWhileProcessorsAreBusy(t *testing.T) {
	before := impl.RunWorld(pairConfig(), pairEvents()).World.Tenants[1]
	for _, pages := range []int64{2, 3, 4} {
		w := checkResized(t, "while both are busy", pairConfig(), pairEvents(), 1, pages)
		state := w.Tenants[1]
		if !slices.Equal(state.Cpus, before.Cpus) || !slices.Equal(state.Tickets, before.Tickets) {
			t.Errorf("the tenant was %v, and is %v", before, state)
		}
	}
	events := behindPair(append([]impl.Event{resizeOf(1, 2)}, picksOf(1, 1, 3)...)...)
	checkReplies(t, "there is no room for it any more", pairConfig(), events, stepped(3, 0), stepped(4, 0), doneRefused(impl.ErrQuota, 5, 0))
	events = behindPair(append([]impl.Event{resizeOf(1, 2), resizeOf(1, 4)}, picksOf(1, 1, 3)...)...)
	checkReplies(t, "there is room again", pairConfig(), events, stepped(3, 0), stepped(4, 0), doneWith(32, 5, 0))
	gone := []impl.Event{createOf(0, 3), issueOf(0, 0, readAt(40)), pickOf(0, 0), resizeOf(0, 2), pickOf(0, 0)}
	checkReplies(t, "the place is gone", pairConfig(), gone, impl.EventReply{}, doneRefused(impl.ErrRange, 2, 0))
	checkTurnsNothing(t, "a page that is used would be gone, while both are busy", pairConfig(), pairEvents(), resizeOf(1, 1), impl.ErrState)
}

func TestP9AResizeTurnsNoOtherTenant(t *testing.T) {
	before := impl.RunWorld(pairConfig(), pairEvents()).World
	for tenant, pages := range map[int64]int64{0: 4, 1: 2} {
		w := checkResized(t, "of one tenant", pairConfig(), pairEvents(), tenant, pages)
		other := 1 - tenant
		if !equalStates(w.Tenants[other], before.Tenants[other]) || !equalHeaps(impl.HeapOf(w, other).Heap, impl.HeapOf(before, other).Heap) {
			t.Errorf("the tenant %d was %v, and is %v", other, before.Tenants[other], w.Tenants[other])
		}
	}
}
