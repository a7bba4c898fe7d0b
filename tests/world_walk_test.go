package tests

import (
	"slices"
	"testing"

	"loop.example/g00729/impl"
)

// worldWalker makes events by numbers that a short rule tells. It looks at what is there, so that most of them can be.
type worldWalker struct {
	*walker
	house *house
	list  []impl.Event
}

func newWorldWalker(c impl.Config, number uint32) *worldWalker {
	return &worldWalker{walker: newWalker(0, number), house: houseBehind(c, nil)}
}

// place is one where a block of the tenant begins, most of the time.
func (w *worldWalker) place(one lodger) int64 {
	starts := liveStarts(one.heap)
	if len(starts) == 0 || w.next(8) == 0 {
		return int64(w.next(len(one.heap.Words)+2) - 1)
	}
	return starts[w.next(len(starts))]
}

func (w *worldWalker) op(one lodger) impl.Op {
	n, at := int64(1+w.next(20)), w.place(one)
	switch w.next(12) {
	case 0, 1, 2:
		return allocOf(n)
	case 3:
		return zeroOf(n)
	case 4, 5, 6:
		return freeAt(at)
	case 7:
		return growAt(at, n)
	case 8:
		return readAt(at + n%3)
	case 9, 10:
		return writeAt(at+n%3, n-int64(w.next(100)))
	}
	return []impl.Op{sizeAt(at), statsOp(), {}, allocOf(65)}[w.next(4)]
}

func (w *worldWalker) any() impl.Event {
	tenant := int64(w.next(len(w.house.lodgers)))
	one := w.house.lodgers[tenant]
	room := len(ownFrames(w.house.c, tenant))
	if !one.alive && w.next(4) > 0 {
		return createOf(tenant, int64(w.next(room+2)))
	}
	cpu := int64(w.next(int(w.house.c.Tenants[tenant].Cpus)))
	switch kind := w.next(60); {
	case kind == 0:
		return destroyOf(tenant)
	case kind == 1:
		return createOf(tenant, int64(w.next(room+2)))
	case kind < 6:
		return resizeOf(tenant, int64(w.next(room+2)))
	case kind == 6:
		return pickOf(int64(w.next(5)-1), int64(w.next(4)-1))
	case kind == 7:
		return issueOf(int64(w.next(5)-1), int64(w.next(4)-1), w.op(one))
	case kind == 8:
		return impl.Event{Kind: int64(w.next(8)), Tenant: tenant, Cpu: int64(w.next(2)), Pages: int64(w.next(2))}
	case one.alive && !one.cpus[cpu].Busy:
		return issueOf(tenant, cpu, w.op(one))
	}
	return pickOf(tenant, cpu)
}

func (w *worldWalker) events(count int) []impl.Event {
	for range count {
		e := w.any()
		w.list = append(w.list, e)
		w.house.replies = append(w.house.replies, w.house.answer(e))
	}
	return w.list
}

// told counts replies by the kind of event that they are to, their code, and that of what was done.
func told(counts map[[3]int64]int, events []impl.Event, replies []impl.EventReply) {
	for i, e := range events {
		counts[[3]int64{e.Kind, replies[i].Code, replies[i].Reply.Code}]++
	}
}

func TestP9ManyWorldsInManyTurns(t *testing.T) {
	counts := map[[3]int64]int{}
	for _, c := range worldConfigs() {
		for number := range uint32(5) {
			events := newWorldWalker(c, number).events(impl.MaxEvents)
			w := checkWorld(t, "many events", c, events)
			told(counts, events, w.Replies)
			for count := 0; count < len(events); count += 17 {
				checkWorld(t, "the first ones of many events", c, events[:count])
			}
		}
	}
	for _, wanted := range [][3]int64{
		{impl.EvCreate, impl.OK}, {impl.EvCreate, impl.ErrTaken}, {impl.EvCreate, impl.ErrRange}, {impl.EvResize, impl.OK}, {impl.EvResize, impl.ErrState}, {impl.EvResize, impl.ErrRange},
		{impl.EvDestroy, impl.OK}, {impl.EvIssue, impl.OK}, {impl.EvIssue, impl.ErrNone}, {impl.EvIssue, impl.ErrRange}, {impl.EvIssue, impl.ErrForm},
		{impl.EvPick, impl.OK}, {impl.EvPick, impl.ErrNone}, {impl.EvPick, impl.ErrRange}, {impl.EvPick, impl.ErrState},
		{impl.EvPick, impl.OK, impl.ErrQuota}, {impl.EvPick, impl.OK, impl.ErrNone}, {impl.EvPick, impl.OK, impl.ErrRange}, {impl.EvPick, impl.OK, impl.ErrForm},
	} {
		if counts[wanted] < 5 {
			t.Error("too few replies of one kind:", wanted, counts)
		}
	}
}

func TestP9WhatWasDoneDoesNotHangOnWhatComesLater(t *testing.T) {
	configs := worldConfigs()
	for number := range uint32(12) {
		c := configs[number%uint32(len(configs))]
		events := newWorldWalker(c, number+50).events(200)
		all := impl.RunWorld(c, events).World.Replies
		for count := range len(events) + 1 {
			first := impl.RunWorld(c, events[:count]).World
			if !slices.Equal(first.Replies, all[:count]) {
				t.Fatalf("the first %d of %d events are answered otherwise alone", count, len(events))
			}
		}
		other := newWorldWalker(c, number+90).events(200)
		for _, count := range []int{1, 30, 100, 170} {
			mixed := impl.RunWorld(c, slices.Concat(events[:count], other[count:])).World.Replies
			if !slices.Equal(mixed[:count], all[:count]) {
				t.Fatalf("the first %d events are answered otherwise where others come behind them", count)
			}
		}
	}
}

func TestP9WhatHasACodeTurnsNothing(t *testing.T) {
	refused := 0
	for number, c := range worldConfigs() {
		events := newWorldWalker(c, uint32(number)+20).events(impl.MaxEvents)
		w := impl.RunWorld(c, events).World
		var kept []impl.Event
		var replies []impl.EventReply
		for i, reply := range w.Replies {
			if reply.Code == impl.OK {
				kept, replies = append(kept, events[i]), append(replies, reply)
				continue
			}
			refused++
			if reply != refusedBy(reply.Code) {
				t.Errorf("a code, and more: %v", reply)
			}
		}
		got := checkWorld(t, "without the events that have a code", c, kept)
		if !slices.Equal(got.Replies, replies) {
			t.Error("the replies are others")
		}
		got.Replies = w.Replies
		if !equalWorlds(got, w) {
			t.Errorf("the world is another one without the events that have a code:\n%v\n%v", got, w)
		}
	}
	if refused < 100 {
		t.Error("just so many events were refused:", refused)
	}
}
