package tests

import (
	"slices"
	"testing"

	"loop.example/g00729/impl"
)

// pairEvents is events of the pairConfig. Behind them the tenant 0 has blocks, a page of which all is kept at hand, and is not busy;
// both processors of the tenant 1 are busy, the second one first, and it has a block at hand; the tenant 2 is not alive.
func pairEvents() []impl.Event {
	list := []impl.Event{createOf(0, 3), createOf(1, 4)}
	list = append(list, doneBy(0, 0, zeroOf(20), writeAt(0, 7), writeAt(31, -8))...)
	list = append(list, doneBy(1, 1, allocOf(3), writeAt(2, 11), allocOf(8), writeAt(16, 12), allocOf(8), freeAt(24))...)
	list = append(list, doneBy(0, 1, allocOf(1), writeAt(32, 9), freeAt(32))...)
	return append(list, issueOf(1, 1, growAt(0, 30)), pickOf(1, 1), issueOf(1, 0, readAt(2)), pickOf(1, 0), pickOf(1, 1))
}

// behindPair is a copy of pairEvents with more events behind them.
func behindPair(more ...impl.Event) []impl.Event {
	return append(pairEvents(), more...)
}

func TestP9TheWorldOfPairEvents(t *testing.T) {
	w := checkWorld(t, "pairEvents", pairConfig(), pairEvents())
	words := make([]int64, 12*16)
	words[0], words[63], words[96] = 7, -8, 9
	words[18], words[64] = 11, 12
	if !slices.Equal(w.Words, words) {
		t.Error("the words are", w.Words)
	}
	run := append(runOf(2), slabOf(0, 0))
	first := impl.TenantState{Alive: true, Pages: run, Mags: [][]int64{nil, nil, nil, nil, {32}, nil, nil, nil}, Table: tableOf(0, 0, 3, 6), Cpus: make([]impl.Cpu, 2)}
	second := impl.TenantState{
		Alive: true, Pages: []impl.Page{slabOf(2, 0), slabOf(3, 0, 1), freePage(), freePage()}, Mags: [][]int64{nil, nil, nil, nil, nil, nil, nil, {24}},
		Table: tableOf(1, 1, 4, -1, -1), Tickets: []int64{1, 0}, Cpus: []impl.Cpu{{Busy: true, Op: readAt(2), Steps: 1, Waited: 1}, {Busy: true, Op: growAt(0, 30), Steps: 2}},
	}
	for i, wanted := range []impl.TenantState{first, second, {Table: tableOf(2)}} {
		if !equalStates(w.Tenants[i], wanted) {
			t.Errorf("the tenant %d is\n%v, wanted\n%v", i, w.Tenants[i], wanted)
		}
	}
}

func TestP1RunWorldOfAConfigWithAFault(t *testing.T) {
	faults := map[int64]bool{}
	configs := append(manyConfigs(), configOf(41, 4, tenantOf(1, 0)), configOf(40, 9, tenantOf(1, 0)), configOf(40, 4, tenantOf(3, 0)), configOf(least, greatest, tenantOf(1, 0)))
	for _, c := range configs {
		code := wantedFault(c)
		if code == impl.OK {
			continue
		}
		faults[code] = true
		for _, events := range [][]impl.Event{nil, {createOf(0, 1)}, pairEvents(), faultyEvents(), make([]impl.Event, 251), slices.Repeat([]impl.Event{createOf(0, 1)}, 1000)} {
			checkNoWorld(t, "a config with a fault", impl.RunWorld(c, events), code)
		}
	}
	if len(faults) != 4 {
		t.Error("just these faults of a config:", faults)
	}
}

func TestP1RunWorldCountsTheEvents(t *testing.T) {
	for _, c := range worldConfigs() {
		for _, e := range append(rightEvents(), faultyEvents()...) {
			for _, count := range []int{1, 2, 249, 250} {
				checkWorld(t, "as many events as there may be", c, slices.Repeat([]impl.Event{e}, count))
			}
			for _, count := range []int{251, 252, 500, 506, 65786} {
				checkNoWorld(t, "too many events", impl.RunWorld(c, slices.Repeat([]impl.Event{e}, count)), impl.ErrMany)
			}
		}
	}
}

func TestP9TheWorldAtFirst(t *testing.T) {
	for _, c := range worldConfigs() {
		for _, events := range [][]impl.Event{nil, {}, make([]impl.Event, 0, 9)} {
			w := checkWorld(t, "no events", c, events)
			if len(w.Replies) != 0 || len(w.Tenants) != len(c.Tenants) || !slices.Equal(w.Words, make([]int64, 16*c.Frames)) {
				t.Error("the world at first is", w)
			}
			for tenant, state := range w.Tenants {
				if !equalStates(state, impl.TenantState{Table: tableOf(int64(tenant))}) {
					t.Errorf("the tenant %d at first is %v", tenant, state)
				}
			}
		}
	}
}

func TestP9AnEventWithAFaultTurnsNothing(t *testing.T) {
	for _, e := range faultyEvents() {
		for _, tenant := range []int64{0, 1, 2, 3, -1, greatest, least} {
			e.Tenant = tenant
			code := wantedEventFault(e)
			if code == impl.OK {
				t.Error("an event without a fault:", e)
			}
			checkTurnsNothing(t, "ahead of all", pairConfig(), nil, e, code)
			checkTurnsNothing(t, "behind others", pairConfig(), pairEvents(), e, code)
		}
	}
}

func TestP9ATenantThatIsNone(t *testing.T) {
	for _, c := range worldConfigs() {
		count := int64(len(c.Tenants))
		for _, tenant := range []int64{-1, -2, count, count + 1, 1 << 32, -1 << 32, 1<<32 + 1, 1 << 8, greatest, least} {
			for _, e := range rightEvents() {
				e.Tenant = tenant
				checkTurnsNothing(t, numbered("the tenant", tenant), c, []impl.Event{createOf(0, 1)}, e, impl.ErrNone)
			}
			for _, e := range []impl.Event{createOf(tenant, 0), createOf(tenant, greatest), resizeOf(tenant, -1), issueOf(tenant, 9, statsOp()), pickOf(tenant, -1)} {
				checkTurnsNothing(t, numbered("the tenant", tenant), c, nil, e, impl.ErrNone)
			}
		}
	}
}

func TestP9ATenantThatIsAliveAndOneThatIsNot(t *testing.T) {
	for _, pages := range []int64{1, 2, 3, 4, 0, 5, -1, greatest, least} {
		for tenant := range int64(2) {
			checkTurnsNothing(t, "an EvCreate of one that is alive", pairConfig(), pairEvents(), createOf(tenant, pages), impl.ErrTaken)
			checkTurnsNothing(t, "an EvCreate behind its like", pairConfig(), []impl.Event{createOf(tenant, 2)}, createOf(tenant, pages), impl.ErrTaken)
		}
		checkTurnsNothing(t, "an EvResize of one that is not alive", pairConfig(), pairEvents(), resizeOf(2, pages), impl.ErrNone)
	}
	for _, events := range [][]impl.Event{nil, pairEvents(), behindPair(createOf(2, 1), destroyOf(2)), {createOf(2, 5)}} {
		checkTurnsNothing(t, "an EvDestroy of one that is not alive", pairConfig(), events, destroyOf(2), impl.ErrNone)
		for _, cpu := range []int64{0, 1, -1, greatest} {
			checkTurnsNothing(t, "an EvPick of one that is not alive", pairConfig(), events, pickOf(2, cpu), impl.ErrNone)
			for _, o := range rightOps() {
				checkTurnsNothing(t, "an EvIssue of one that is not alive", pairConfig(), events, issueOf(2, cpu, o), impl.ErrNone)
			}
		}
	}
}

func TestP9PagesOfATenantThatIsCreated(t *testing.T) {
	for _, c := range worldConfigs() {
		for tenant := range int64(len(c.Tenants)) {
			room := int64(len(ownFrames(c, tenant)))
			for pages := int64(1); pages <= room; pages++ {
				w := checkReplies(t, numbered("so many pages:", pages), c, []impl.Event{createOf(tenant, pages)}, impl.EventReply{})
				cpus := c.Tenants[tenant].Cpus
				wanted := impl.TenantState{Alive: true, Pages: freePages(int(pages)), Mags: make([][]int64, 4*cpus), Table: bareTable(tenant, int(pages)), Cpus: make([]impl.Cpu, cpus)}
				if !equalStates(w.Tenants[tenant], wanted) {
					t.Errorf("the tenant is %v, wanted %v", w.Tenants[tenant], wanted)
				}
				checkHeap(t, "its heap", impl.HeapOf(w, tenant), heapOf(int(cpus), freePages(int(pages))...))
			}
			for _, pages := range []int64{0, -1, room + 1, room + 2, -room, 41, room + 1<<8, room + 1<<32, 1 - 1<<32, greatest, least} {
				if pages < 1 || pages > room {
					checkTurnsNothing(t, numbered("so many pages:", pages), c, nil, createOf(tenant, pages), impl.ErrRange)
				}
			}
		}
	}
}

func TestP9PagesOfATenantThatIsResized(t *testing.T) {
	for _, pages := range []int64{0, -1, -4, 5, 6, 12, 13, 40, 41, 1<<8 + 4, 1<<32 + 4, 4 - 1<<32, greatest, least} {
		checkTurnsNothing(t, "pages that are out of bounds", pairConfig(), pairEvents(), resizeOf(0, pages), impl.ErrRange)
		checkTurnsNothing(t, "pages that are out of bounds, while it is busy", pairConfig(), pairEvents(), resizeOf(1, pages), impl.ErrRange)
		checkTurnsNothing(t, "pages that are out of bounds, of an empty heap", pairConfig(), []impl.Event{createOf(2, 1)}, resizeOf(2, pages), impl.ErrRange)
	}
}

func TestP9AProcessorThatIsNone(t *testing.T) {
	for _, made := range []struct {
		tenant, cpus int64
	}{{0, 2}, {1, 2}, {2, 1}} {
		events := behindPair(createOf(2, 4))
		for _, cpu := range []int64{-1, -2, made.cpus, made.cpus + 1, 4 * made.cpus, 1 << 8, 1 << 32, 1<<32 + 1, -1 << 32, greatest, least, greatest/4 + 1} {
			checkTurnsNothing(t, numbered("an EvPick of", cpu), pairConfig(), events, pickOf(made.tenant, cpu), impl.ErrRange)
			for _, o := range rightOps() {
				checkTurnsNothing(t, numbered("an EvIssue of", cpu), pairConfig(), events, issueOf(made.tenant, cpu, o), impl.ErrRange)
			}
		}
	}
}

func TestP9AProcessorThatIsBusyAndOneThatIsNot(t *testing.T) {
	for cpu := range int64(2) {
		checkTurnsNothing(t, "a pick of one that is not busy", pairConfig(), pairEvents(), pickOf(0, cpu), impl.ErrState)
		for _, o := range rightOps() {
			checkTurnsNothing(t, "an op for one that is busy", pairConfig(), pairEvents(), issueOf(1, cpu, o), impl.ErrState)
			w := checkReplies(t, "an op for one that is not busy", pairConfig(), behindPair(issueOf(0, cpu, o)), impl.EventReply{})
			state := w.Tenants[0]
			if state.Cpus[cpu] != (impl.Cpu{Busy: true, Op: o}) || state.Cpus[1-cpu].Busy || !slices.Equal(state.Tickets, []int64{cpu}) {
				t.Error("the tenant is", state)
			}
			checkTurnsNothing(t, "a second op", pairConfig(), behindPair(issueOf(0, cpu, o)), issueOf(0, cpu, o), impl.ErrState)
			checkTurnsNothing(t, "a pick of the other one", pairConfig(), behindPair(issueOf(0, cpu, o)), pickOf(0, 1-cpu), impl.ErrState)
		}
	}
	for tenant := range int64(3) {
		checkTurnsNothing(t, "a pick of one that is new", pairConfig(), []impl.Event{createOf(tenant, 1)}, pickOf(tenant, 0), impl.ErrState)
	}
	checkTurnsNothing(t, "a pick of one that is done", pairConfig(), append([]impl.Event{createOf(2, 1)}, doneBy(2, 0, statsOp())...), pickOf(2, 0), impl.ErrState)
}

func TestP9WhichCodeOfAnEventComesFirst(t *testing.T) {
	withPages := func(e impl.Event) impl.Event {
		e.Pages = 9
		return e
	}
	cases := []struct {
		name string
		e    impl.Event
		code int64
	}{
		{"no kind, of a tenant that is none", impl.Event{Kind: 7, Tenant: 9}, impl.ErrForm},
		{"Pages that are not needed, and an op with a fault", withPages(issueOf(1, 0, allocOf(0))), impl.ErrForm},
		{"Pages that are not needed, of a tenant that is none", withPages(destroyOf(9)), impl.ErrForm},
		{"an op with a fault, of a tenant that is none", issueOf(9, 0, allocOf(65)), impl.ErrRange},
		{"an op with a fault, of one that is not alive", issueOf(2, 0, allocOf(65)), impl.ErrRange},
		{"an op with a fault, of one that is busy", issueOf(1, 0, impl.Op{}), impl.ErrForm},
		{"an op with a fault, of a processor that is none", issueOf(0, 9, impl.Op{Kind: impl.OpStats, N: 1}), impl.ErrForm},
		{"a tenant that is none, and too many pages", createOf(3, 99), impl.ErrNone},
		{"a tenant that is alive, and too many pages", createOf(0, 99), impl.ErrTaken},
		{"a tenant that is not alive, and too many pages", resizeOf(2, 99), impl.ErrNone},
		{"a tenant that is not alive, and a processor that is none", issueOf(2, 5, statsOp()), impl.ErrNone},
		{"a tenant that is none, and a processor that is none", pickOf(-1, -1), impl.ErrNone},
		{"too many pages, and blocks that live", resizeOf(0, 0), impl.ErrRange},
		{"too few pages, and blocks that live", resizeOf(0, -1), impl.ErrRange},
		{"blocks that live", resizeOf(0, 1), impl.ErrState},
		{"a processor that is none, where one is busy", issueOf(1, 2, statsOp()), impl.ErrRange},
		{"a processor that is none, where none is busy", pickOf(0, 2), impl.ErrRange},
	}
	for _, made := range cases {
		checkTurnsNothing(t, made.name, pairConfig(), pairEvents(), made.e, made.code)
	}
}
