package tests

import (
	"slices"
	"testing"

	"loop.example/g00729/impl"
)

func TestP9ATenantThatIsDestroyedIsAsAtFirst(t *testing.T) {
	before := impl.RunWorld(pairConfig(), pairEvents()).World
	for tenant := range int64(2) {
		w := checkReplies(t, "destroyed", pairConfig(), behindPair(destroyOf(tenant)), impl.EventReply{})
		if !equalStates(w.Tenants[tenant], impl.TenantState{Table: tableOf(tenant)}) {
			t.Error("the tenant is", w.Tenants[tenant])
		}
		checkNoHeap(t, "its heap", impl.HeapOf(w, tenant), impl.ErrNone)
		for frame := range int64(12) {
			wanted := before.Words[16*frame : 16*frame+16]
			if frame%3 == tenant {
				wanted = make([]int64, 16)
			}
			checkList(t, numbered("the frame", frame), impl.FrameWords(w.Words, frame), wanted)
		}
		other := 1 - tenant
		if !equalStates(w.Tenants[other], before.Tenants[other]) {
			t.Errorf("the other tenant was %v, and is %v", before.Tenants[other], w.Tenants[other])
		}
		checkHeap(t, "the other one's heap", impl.HeapOf(w, other), impl.HeapOf(before, other).Heap)
		for _, again := range []impl.Event{destroyOf(tenant), resizeOf(tenant, 1), pickOf(tenant, 0), pickOf(tenant, 1), pickOf(tenant, 5), issueOf(tenant, 0, statsOp())} {
			checkTurnsNothing(t, "destroyed already", pairConfig(), behindPair(destroyOf(tenant)), again, impl.ErrNone)
		}
	}
	w := checkWorld(t, "all are destroyed", pairConfig(), behindPair(destroyOf(1), destroyOf(0), destroyOf(2)))
	checkList(t, "all is zero", impl.IntsResult{List: w.Words}, make([]int64, 192))
}

func TestP9ATenantThatIsDestroyedWhileItIsBusy(t *testing.T) {
	events := behindPair(destroyOf(1), createOf(1, 3))
	w := checkReplies(t, "created again", pairConfig(), events, impl.EventReply{}, impl.EventReply{})
	wanted := impl.TenantState{Alive: true, Pages: freePages(3), Mags: make([][]int64, 8), Table: bareTable(1, 3), Cpus: make([]impl.Cpu, 2)}
	if !equalStates(w.Tenants[1], wanted) {
		t.Errorf("the tenant is %v, wanted %v", w.Tenants[1], wanted)
	}
	checkHeap(t, "its heap", impl.HeapOf(w, 1), heapOf(2, freePages(3)...))
	for cpu := range int64(2) {
		checkTurnsNothing(t, "a pick of what was busy", pairConfig(), events, pickOf(1, cpu), impl.ErrState)
		again := append(slices.Clone(events), doneBy(1, cpu, allocOf(16), readAt(0), statsOp())...)
		checkReplies(t, "it starts anew", pairConfig(), again,
			impl.EventReply{}, stepped(1, 0), stepped(2, 0), doneWith(0, 3, 0), impl.EventReply{}, stepped(1, 0), doneWith(0, 2, 0), impl.EventReply{}, doneWith(1, 1, 0))
		checkFrames(t, "it has the lowest frame again", pairConfig(), again, 1, 1, -1, -1)
	}
	checkTurnsNothing(t, "created twice", pairConfig(), events, createOf(1, 3), impl.ErrTaken)
	twice := append(events, destroyOf(1))
	checkReplies(t, "destroyed twice", pairConfig(), twice, impl.EventReply{})
	checkTurnsNothing(t, "destroyed three times", pairConfig(), twice, destroyOf(1), impl.ErrNone)
}

func TestP9ATenantIsCreatedAndDestroyedManyTimes(t *testing.T) {
	var events []impl.Event
	for pages := int64(1); pages <= 4; pages++ {
		for tenant := range int64(3) {
			events = append(events, createOf(tenant, pages))
			events = append(events, doneBy(tenant, 0, allocOf(16*pages), writeAt(16*pages-1, 7))...)
			events = append(events, issueOf(tenant, 0, freeAt(0)), pickOf(tenant, 0), destroyOf(tenant))
			w := checkWorld(t, "created and destroyed", pairConfig(), events)
			checkList(t, "all is zero", impl.IntsResult{List: w.Words}, make([]int64, 192))
			if !equalStates(w.Tenants[tenant], impl.TenantState{Table: tableOf(tenant)}) {
				t.Error("the tenant is", w.Tenants[tenant])
			}
		}
	}
}
