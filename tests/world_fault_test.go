package tests

import (
	"testing"

	"loop.example/g00729/impl"
)

// rightEvents is an event of each kind, in the order of the kinds.
func rightEvents() []impl.Event {
	return []impl.Event{issueOf(0, 1, allocOf(3)), pickOf(2, 0), createOf(0, 4), resizeOf(2, 1), destroyOf(1)}
}

// faultyEvents is events with a fault, of the tenant 0.
func faultyEvents() []impl.Event {
	list := []impl.Event{
		{}, {Kind: 6}, {Kind: -1, Pages: 1}, {Kind: greatest}, {Kind: least, Cpu: 1},
		{Kind: impl.EvIssue, Op: allocOf(1), Pages: 1}, {Kind: impl.EvIssue, Op: allocOf(0), Pages: -1}, {Kind: impl.EvIssue},
		{Kind: impl.EvPick, Pages: 1}, {Kind: impl.EvPick, Op: statsOp()}, {Kind: impl.EvPick, Op: impl.Op{Value: 1}},
		{Kind: impl.EvCreate, Pages: 1, Cpu: 1}, {Kind: impl.EvCreate, Pages: 1, Op: impl.Op{At: 1}},
		{Kind: impl.EvResize, Pages: 1, Cpu: -1}, {Kind: impl.EvResize, Pages: 1, Op: impl.Op{N: 1}},
		{Kind: impl.EvDestroy, Pages: 1}, {Kind: impl.EvDestroy, Cpu: 1}, {Kind: impl.EvDestroy, Op: impl.Op{Kind: 1}},
	}
	for o := range faultyOps() {
		list = append(list, issueOf(0, 0, o))
	}
	return list
}

func checkEvent(t *testing.T, name string, e impl.Event, code int64) {
	t.Helper()
	if got := impl.EventFault(e); got != code {
		t.Errorf("%s: fault %d, wanted %d, of %v", name, got, code, e)
	}
}

func TestTheNumbersOfChapter8(t *testing.T) {
	numbers := []int64{impl.MaxEvents, impl.EvIssue, impl.EvPick, impl.EvCreate, impl.EvResize, impl.EvDestroy}
	for i, wanted := range []int64{250, 1, 2, 3, 4, 5} {
		if numbers[i] != wanted {
			t.Errorf("the number at %d is %d, wanted %d", i, numbers[i], wanted)
		}
	}
}

func TestP1EventFaultOfEachKind(t *testing.T) {
	for i, e := range rightEvents() {
		if e.Kind != int64(i+1) {
			t.Errorf("the kind %d has the number %d", i+1, e.Kind)
		}
		checkEvent(t, "an event of each kind", e, impl.OK)
	}
	for _, o := range rightOps() {
		checkEvent(t, "an op of each kind", issueOf(0, 0, o), impl.OK)
	}
	for _, kind := range []int64{impl.EvPick, impl.EvCreate, impl.EvResize, impl.EvDestroy} {
		checkEvent(t, "an event that has its kind alone", impl.Event{Kind: kind}, impl.OK)
	}
	checkEvent(t, "an event without its op", impl.Event{Kind: impl.EvIssue}, impl.ErrForm)
}

func TestP1EventFaultBoundsTheKind(t *testing.T) {
	checkEvent(t, "the zero value", impl.Event{}, impl.ErrForm)
	for _, kind := range append(wrongNumbers(1, 5), 0, 6, -1, 7, greatest, least) {
		if kind >= 1 && kind <= 5 {
			continue
		}
		checkEvent(t, "a kind that is none", impl.Event{Kind: kind}, impl.ErrForm)
		for _, e := range rightEvents() {
			e.Kind = kind
			checkEvent(t, "a kind that is none, with fields", e, impl.ErrForm)
		}
		checkEvent(t, "a kind that is none, with an op that has a fault", impl.Event{Kind: kind, Op: allocOf(0)}, impl.ErrForm)
	}
}

func TestP1EventFaultOfWhatAKindDoesNotNeed(t *testing.T) {
	for _, number := range []int64{1, -1, 2, 3, 250, 1 << 8, 1 << 32, -1 << 32, greatest, least} {
		for _, e := range []impl.Event{issueOf(0, 1, allocOf(3)), issueOf(0, 0, allocOf(0)), issueOf(0, 0, writeAt(0, greatest)), pickOf(0, 1), pickOf(-1, 0), destroyOf(0)} {
			e.Pages = number
			checkEvent(t, "Pages", e, impl.ErrForm)
		}
		for _, e := range []impl.Event{createOf(0, 4), createOf(5, -1), resizeOf(0, 4), resizeOf(1, greatest), destroyOf(0), destroyOf(least)} {
			e.Cpu = number
			checkEvent(t, "a Cpu", e, impl.ErrForm)
		}
		for _, e := range []impl.Event{pickOf(0, 1), createOf(0, 4), resizeOf(0, 4), destroyOf(0), createOf(9, 0)} {
			for _, o := range []impl.Op{{Kind: number}, {At: number}, {N: number}, {Value: number}, {Kind: impl.OpFree, At: number}} {
				e.Op = o
				checkEvent(t, "an Op", e, impl.ErrForm)
			}
		}
	}
	for _, o := range rightOps() {
		for _, e := range rightEvents()[1:] {
			e.Op = o
			checkEvent(t, "an Op without a fault", e, impl.ErrForm)
		}
	}
}

func TestP1EventFaultOfAnOpWithAFault(t *testing.T) {
	for o, code := range faultyOps() {
		for _, cpu := range []int64{0, 1, -1, greatest} {
			checkEvent(t, "an op with a fault", issueOf(0, cpu, o), code)
			e := issueOf(0, cpu, o)
			e.Pages = 2
			checkEvent(t, "an op with a fault, and Pages", e, impl.ErrForm)
		}
	}
}

func TestP1EventFaultOfAnyTenantAndProcessor(t *testing.T) {
	for _, number := range append(wrongNumbers(0, 3), 0, 1, 2, 3, 40, 41, greatest, least) {
		for _, other := range []int64{0, 1, -1, greatest, least} {
			for _, o := range rightOps() {
				checkEvent(t, "issue", issueOf(number, other, o), impl.OK)
				checkEvent(t, "issue", issueOf(other, number, o), impl.OK)
			}
			for _, e := range []impl.Event{pickOf(number, other), pickOf(other, number), createOf(number, other), createOf(other, number), resizeOf(number, other), resizeOf(other, number), destroyOf(number)} {
				checkEvent(t, "any numbers", e, impl.OK)
			}
		}
	}
}

func TestP1EventFaultOfManyEvents(t *testing.T) {
	codes := map[int64]int{}
	for kind := int64(-1); kind <= 7; kind++ {
		for _, tenant := range []int64{0, -1, greatest} {
			for _, cpu := range []int64{0, 1, least} {
				for _, pages := range []int64{0, 1, greatest} {
					for o := range faultyOps() {
						for _, tried := range append(rightOps(), o) {
							e := impl.Event{Kind: kind, Tenant: tenant, Cpu: cpu, Op: tried, Pages: pages}
							codes[wantedEventFault(e)]++
							checkEvent(t, "an event", e, wantedEventFault(e))
						}
					}
				}
			}
		}
	}
	if codes[impl.OK] < 100 || codes[impl.ErrRange] < 20 || codes[impl.ErrForm] < 1000 || len(codes) != 3 {
		t.Error("the events are too few:", codes)
	}
}
