package tests

import (
	"slices"
	"testing"

	"loop.example/g00729/impl"
)

func stepped(steps, waited int64) impl.EventReply {
	return impl.EventReply{Steps: steps, Waited: waited}
}

func doneWith(value, steps, waited int64) impl.EventReply {
	return impl.EventReply{Done: true, Reply: impl.Reply{Value: value}, Steps: steps, Waited: waited}
}

func doneRefused(code, steps, waited int64) impl.EventReply {
	return impl.EventReply{Done: true, Reply: impl.Reply{Code: code}, Steps: steps, Waited: waited}
}

// twoBlocks is events of the pairConfig behind which the tenant 0 has a run of 32 words at 0, and one of 8 at 32, and nobody is busy.
func twoBlocks() []impl.Event {
	return append([]impl.Event{createOf(0, 4)}, doneBy(0, 1, allocOf(20), allocOf(5), writeAt(3, 33), writeAt(39, -44))...)
}

// turnOps is an op of each kind that is done behind twoBlocks, and ops of each kind, but the last one, that are refused there.
func turnOps() (done, refused map[impl.Op]int64) {
	done = map[impl.Op]int64{allocOf(3): 48, zeroOf(8): 40, freeAt(0): 0, growAt(32, 16): 48, readAt(39): -44, writeAt(0, 9): 0, sizeAt(0): 32, statsOp(): 3}
	refused = map[impl.Op]int64{
		allocOf(17): impl.ErrQuota, zeroOf(64): impl.ErrQuota, freeAt(1): impl.ErrForm, growAt(0, 33): impl.ErrQuota, growAt(47, 1): impl.ErrNone,
		readAt(40): impl.ErrNone, readAt(64): impl.ErrRange, writeAt(-1, 0): impl.ErrRange, sizeAt(33): impl.ErrForm, freeAt(least): impl.ErrRange,
	}
	return done, refused
}

func TestP9AThingTakesAsManyStepsAsItsKind(t *testing.T) {
	done, refused := turnOps()
	for cpu := range int64(2) {
		for o, value := range done {
			var wanted []impl.EventReply
			for steps := int64(1); steps < stepsEach[o.Kind]; steps++ {
				wanted = append(wanted, stepped(steps, 0))
			}
			wanted = append(wanted, doneWith(value, stepsEach[o.Kind], 0))
			events := append(twoBlocks(), doneBy(0, cpu, o)...)
			checkReplies(t, "a thing that is the only one", pairConfig(), events, wanted...)
			checkTurnsNothing(t, "one pick more", pairConfig(), events, pickOf(0, cpu), impl.ErrState)
			checkReplies(t, "the same thing once more", pairConfig(), append(events, issueOf(0, cpu, statsOp()), pickOf(0, cpu)), impl.EventReply{}, doneWith(impl.UsedIn(impl.RunWorld(pairConfig(), events).World.Tenants[0].Pages).Value, 1, 0))
		}
		for o, code := range refused {
			checkReplies(t, "a thing that is refused", pairConfig(), append(twoBlocks(), doneBy(0, cpu, o)...), doneRefused(code, stepsEach[o.Kind], 0))
		}
	}
}

func TestP9AThingTurnsNothingAheadOfItsLastStep(t *testing.T) {
	done, _ := turnOps()
	before := impl.RunWorld(pairConfig(), twoBlocks()).World
	for o := range done {
		for steps := range stepsEach[o.Kind] {
			w := checkWorld(t, "a thing under way", pairConfig(), slices.Concat(twoBlocks(), []impl.Event{issueOf(0, 1, o)}, picksOf(0, 1, steps)))
			state := w.Tenants[0]
			if !slices.Equal(w.Words, before.Words) || !equalPages(state.Pages, before.Tenants[0].Pages) || !equalTables(state.Table, before.Tenants[0].Table) {
				t.Errorf("%d steps of %v turned the heap", steps, o)
			}
			if state.Cpus[1] != (impl.Cpu{Busy: true, Op: o, Steps: steps}) || state.Cpus[0] != (impl.Cpu{}) || !slices.Equal(state.Tickets, []int64{1}) {
				t.Errorf("%d steps of %v: the tenant is %v", steps, o, state)
			}
		}
	}
}

func TestP9ARefusedThingLeavesTheHeap(t *testing.T) {
	_, refused := turnOps()
	before := impl.HeapOf(impl.RunWorld(pairConfig(), twoBlocks()).World, 0)
	for o, code := range refused {
		w := checkWorld(t, "a thing that is refused", pairConfig(), append(twoBlocks(), doneBy(0, 0, o)...))
		checkHeap(t, "the heap behind it", impl.HeapOf(w, 0), before.Heap)
		last := w.Replies[len(w.Replies)-1]
		if last.Code != impl.OK || !last.Done || last.Reply != (impl.Reply{Code: code}) {
			t.Errorf("the reply to %v is %v", o, last)
		}
		state := w.Tenants[0]
		if len(state.Tickets) != 0 || state.Cpus[0] != (impl.Cpu{}) {
			t.Error("a processor that is refused stays busy:", state)
		}
	}
}

// everyOrder is each list of so many numbers that are 0 or 1.
func everyOrder(count int) [][]int64 {
	lists := make([][]int64, 1<<count)
	for number := range lists {
		for place := range count {
			lists[number] = append(lists[number], int64(number>>place&1))
		}
	}
	return lists
}

// checkTurnOrder wants things done in the order in which they were issued, each after as many steps as its kind takes, and the first one never waiting.
func checkTurnOrder(t *testing.T, events []impl.Event, w impl.World) {
	t.Helper()
	var issued []int64
	kinds := map[int64]int64{}
	for i, e := range events {
		reply := w.Replies[i]
		if reply.Code != impl.OK {
			continue
		}
		switch {
		case e.Kind == impl.EvIssue:
			issued, kinds[e.Cpu] = append(issued, e.Cpu), e.Op.Kind
		case e.Kind == impl.EvPick && reply.Done:
			if issued[0] != e.Cpu || reply.Steps-reply.Waited != stepsEach[kinds[e.Cpu]] {
				t.Fatalf("the event %d is done, %v, where these are issued: %v", i, reply, issued)
			}
			issued = issued[1:]
		}
	}
}

func TestP9TwoProcessorsInEachOrder(t *testing.T) {
	done, _ := turnOps()
	finished := 0
	for a := range done {
		for b := range done {
			for first := range int64(2) {
				for _, order := range everyOrder(7) {
					events := append(twoBlocks(), issueOf(0, first, a), issueOf(0, 1-first, b))
					for _, cpu := range order {
						events = append(events, pickOf(0, cpu))
					}
					got := impl.RunWorld(pairConfig(), events).World
					if !slices.Equal(got.Replies, wantedWorld(pairConfig(), events).Replies) {
						t.Fatalf("%v ahead of %v, picked in the order %v: %v", a, b, order, got.Replies)
					}
					checkTurnOrder(t, events, got)
					finished += 2 - len(got.Tenants[0].Tickets)
				}
			}
		}
	}
	if finished < 10000 {
		t.Error("just so many things were done:", finished)
	}
}

func TestP9TheFirstOfTheTicketsGoesOn(t *testing.T) {
	for first := range int64(2) {
		other := 1 - first
		events := append(twoBlocks(), issueOf(0, first, growAt(32, 16)), issueOf(0, other, statsOp()))
		events = append(events, pickOf(0, other), pickOf(0, other), pickOf(0, first), pickOf(0, other))
		w := checkReplies(t, "a short thing behind one of many steps", pairConfig(), events, stepped(1, 1), stepped(2, 2), stepped(1, 0), stepped(3, 3))
		if !slices.Equal(w.Tenants[0].Tickets, []int64{first, other}) {
			t.Error("the tickets are", w.Tenants[0].Tickets)
		}
		events = append(events, picksOf(0, first, 4)...)
		w = checkReplies(t, "the first one is done", pairConfig(), events, stepped(2, 0), stepped(3, 0), stepped(4, 0), doneWith(48, 5, 0))
		if !slices.Equal(w.Tenants[0].Tickets, []int64{other}) || w.Tenants[0].Cpus[first] != (impl.Cpu{}) || w.Tenants[0].Cpus[other] != (impl.Cpu{Busy: true, Op: statsOp(), Steps: 3, Waited: 3}) {
			t.Error("the tenant is", w.Tenants[0])
		}
		again := append(events, issueOf(0, first, sizeAt(48)), pickOf(0, first), pickOf(0, other), pickOf(0, first))
		w = checkReplies(t, "the first one is behind the other one now", pairConfig(), again, impl.EventReply{}, stepped(1, 1), doneWith(4, 4, 3), doneWith(16, 2, 1))
		if len(w.Tenants[0].Tickets) != 0 || !slices.Equal(w.Tenants[0].Cpus, make([]impl.Cpu, 2)) {
			t.Error("the tenant is", w.Tenants[0])
		}
	}
}

func TestP9AThingIsAnsweredByWhatIsThereWhenItIsDone(t *testing.T) {
	for first := range int64(2) {
		other := 1 - first
		cases := []struct {
			ahead, behind impl.Op
			value, code   int64
		}{
			{writeAt(3, 77), readAt(3), 77, impl.OK},
			{readAt(3), writeAt(3, 77), 0, impl.OK},
			{freeAt(0), readAt(3), 0, impl.ErrNone},
			{freeAt(32), sizeAt(32), 0, impl.ErrNone},
			{allocOf(16), statsOp(), 4, impl.OK},
			{freeAt(0), allocOf(32), 0, impl.OK},
			{allocOf(16), allocOf(16), 0, impl.ErrQuota},
			{growAt(32, 16), readAt(55), -44, impl.OK},
		}
		for _, made := range cases {
			events := append(twoBlocks(), issueOf(0, first, made.ahead), issueOf(0, other, made.behind))
			events = append(events, picksOf(0, first, stepsEach[made.ahead.Kind])...)
			events = append(events, picksOf(0, other, stepsEach[made.behind.Kind])...)
			wanted := doneWith(made.value, stepsEach[made.behind.Kind], 0)
			wanted.Reply.Code = made.code
			checkReplies(t, "a thing behind another one", pairConfig(), events, wanted)
		}
	}
}

func TestP9PicksOfAnotherTenantTurnNothing(t *testing.T) {
	alone := append(twoBlocks(), issueOf(0, 1, growAt(32, 16)), issueOf(0, 0, statsOp()), pickOf(0, 0), pickOf(0, 1), pickOf(0, 1))
	wanted := impl.RunWorld(pairConfig(), alone).World
	others := []impl.Event{createOf(1, 4), issueOf(1, 1, zeroOf(30)), issueOf(1, 0, allocOf(3)), pickOf(1, 0), pickOf(1, 1), pickOf(1, 1), pickOf(1, 1), pickOf(1, 1), pickOf(1, 0), resizeOf(1, 3), pickOf(2, 0), destroyOf(2)}
	for each := 1; each <= 3; each++ {
		var events []impl.Event
		var places []int
		for i, e := range alone {
			places, events = append(places, len(events)), append(events, e)
			start := min(each*i, len(others))
			events = append(events, others[start:min(start+each, len(others))]...)
		}
		w := checkWorld(t, "events of others in between", pairConfig(), events)
		for i, place := range places {
			if w.Replies[place] != wanted.Replies[i] {
				t.Errorf("the event %v is answered %v, wanted %v", alone[i], w.Replies[place], wanted.Replies[i])
			}
		}
		if !equalStates(w.Tenants[0], wanted.Tenants[0]) {
			t.Errorf("the tenant is %v, wanted %v", w.Tenants[0], wanted.Tenants[0])
		}
	}
}

// TestP9WhatIsDoneIsWhatDoHeapTells holds the functions of the program against each other.
func TestP9WhatIsDoneIsWhatDoHeapTells(t *testing.T) {
	c := pairConfig()
	for number := range uint32(6) {
		w := newWorldWalker(c, number)
		events := w.events(200)
		heaps := map[int64]impl.Heap{}
		ops := map[[2]int64]impl.Op{}
		world := impl.RunWorld(c, events).World
		for i, e := range events {
			reply := world.Replies[i]
			if reply.Code != impl.OK {
				continue
			}
			switch e.Kind {
			case impl.EvCreate:
				heaps[e.Tenant] = impl.NewHeap(e.Pages, c.Tenants[e.Tenant].Cpus).Heap
			case impl.EvResize:
				heaps[e.Tenant] = impl.ResizeHeap(heaps[e.Tenant], e.Pages).Heap
			case impl.EvIssue:
				ops[[2]int64{e.Tenant, e.Cpu}] = e.Op
			case impl.EvPick:
				if reply.Done {
					done := impl.DoHeap(heaps[e.Tenant], e.Cpu, ops[[2]int64{e.Tenant, e.Cpu}])
					heaps[e.Tenant] = done.Heap
					if done.Code != impl.OK || done.Reply != reply.Reply {
						t.Fatalf("the event %d, %v, is answered %v, and DoHeap tells %v", i, e, reply, done.Reply)
					}
				}
			}
		}
		for tenant, state := range world.Tenants {
			if state.Alive {
				checkHeap(t, "the heap at the end", impl.HeapOf(world, int64(tenant)), heaps[int64(tenant)])
			}
		}
	}
}
