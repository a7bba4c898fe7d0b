package tests

import (
	"slices"
	"testing"

	"loop.example/g00729/impl"
)

type opCall struct {
	name string
	call func(h impl.Heap) impl.RunResult
}

// asRun has a reply in a list, so that all calls are held against one another alike.
func asRun(got impl.HeapResult) impl.RunResult {
	return impl.RunResult{Code: got.Code, Heap: got.Heap, Replies: []impl.Reply{got.Reply}}
}

// memoryOps turns each kind of thing in one of anyHeaps, at least.
func memoryOps() []impl.Op {
	list := append(rightOps(), impl.Op{}, allocOf(1), allocOf(2), allocOf(8), allocOf(9), allocOf(33), allocOf(64), allocOf(65), zeroOf(4), zeroOf(8), zeroOf(20))
	for _, at := range []int64{0, 8, 16, 34, 48, 96, 176, 216, 280, 288} {
		list = append(list, freeAt(at), growAt(at, 3), growAt(at, 9), growAt(at, 40), readAt(at), writeAt(at, 77), sizeAt(at))
	}
	return list
}

func opCalls() []opCall {
	var calls []opCall
	for _, o := range memoryOps() {
		for cpu := range int64(3) {
			calls = append(calls, opCall{"DoHeap", func(h impl.Heap) impl.RunResult { return asRun(impl.DoHeap(h, cpu, o)) }})
		}
	}
	lists := [][]impl.Request{nil, someRequests(newWalker(1, 5), 30, 2), someRequests(newWalker(1, 6), 30, 1), slices.Repeat([]impl.Request{requestOf(0, allocOf(64))}, 301)}
	for _, list := range append(lists, []impl.Request{requestOf(0, statsOp())}, []impl.Request{requestOf(0, freeAt(34)), requestOf(4, statsOp())}) {
		calls = append(calls, opCall{"RunHeap", func(h impl.Heap) impl.RunResult { return impl.RunHeap(h, list) }})
	}
	for _, size := range []int64{0, 1, 8, 9, 17, 64, 65} {
		calls = append(calls, opCall{"IsPlaced", func(h impl.Heap) impl.RunResult {
			return impl.RunResult{Replies: []impl.Reply{{Value: map[bool]int64{true: 1}[impl.IsPlaced(h, size)]}}}
		}})
	}
	return calls
}

func forEachOpCall(do func(made opCall, h impl.Heap)) {
	for _, h := range append(anyHeaps(), keptOfAll()) {
		for _, made := range opCalls() {
			do(made, h)
		}
	}
}

func copyRun(got impl.RunResult) impl.RunResult {
	return impl.RunResult{Code: got.Code, Heap: copyHeap(got.Heap), Replies: slices.Clone(got.Replies)}
}

func checkSameRun(t *testing.T, name string, got, wanted impl.RunResult) {
	t.Helper()
	if got.Code != wanted.Code || !slices.Equal(got.Replies, wanted.Replies) || !equalHeaps(got.Heap, wanted.Heap) {
		t.Errorf("%s:\ngot    %v\nwanted %v", name, got, wanted)
	}
}

func spoilReplies(list []impl.Reply) {
	whole := list[:cap(list)]
	for i := range whole {
		whole[i] = impl.Reply{Code: 66, Value: 67}
	}
}

func TestP1AHeapStaysWhateverIsDone(t *testing.T) {
	forEachOpCall(func(made opCall, h impl.Heap) {
		given := roomyHeap(h)
		made.call(given)
		checkKeptHeap(t, made.name, given, h)
	})
}

func TestP1TheRequestsAndRepliesStay(t *testing.T) {
	strange := requestOf(7, impl.Op{Kind: 7, At: 7, N: 7, Value: 7})
	for _, count := range []int{0, 1, 30, 300, 301} {
		list := someRequests(newWalker(1, 3), count, 2)
		whole := append(slices.Clone(list), strange)
		impl.RunHeap(mixedHeap(), whole[:count])
		if !slices.Equal(whole[:count], list) || whole[count] != strange {
			t.Error("RunHeap changed its requests, or what is behind them")
		}
	}
	a, b := []impl.Reply{{Value: 1}, {Code: 2}, {Code: 66}}, []impl.Reply{{Value: 1}, {Code: 3}, {Code: 66}}
	impl.SameReplies(a[:2], b[:2])
	if !slices.Equal(a, []impl.Reply{{Value: 1}, {Code: 2}, {Code: 66}}) || !slices.Equal(b, []impl.Reply{{Value: 1}, {Code: 3}, {Code: 66}}) {
		t.Error("SameReplies changed its replies")
	}
}

func TestP1WhatIsAnsweredOfAnOpIsNewMemory(t *testing.T) {
	answered := map[string]int{}
	forEachOpCall(func(made opCall, h impl.Heap) {
		given := roomyHeap(h)
		first, second := made.call(given), made.call(given)
		if len(first.Heap.Mags) == 0 {
			return
		}
		answered[made.name]++
		wanted := copyRun(second)

		spoilHeap(first.Heap)
		spoilReplies(first.Replies)
		checkKeptHeap(t, made.name+", its answer overwritten", given, h)
		checkSameRun(t, made.name+", the other answer overwritten", second, wanted)

		spoilHeap(given)
		checkSameRun(t, made.name+", its arguments overwritten", second, wanted)
	})
	if len(answered) != 2 || answered["RunHeap"] < 50 {
		t.Error("just these calls answered heaps:", answered)
	}
}

func TestP1TheListsOfWhatIsAnsweredShareNothing(t *testing.T) {
	forEachOpCall(func(made opCall, h impl.Heap) {
		if len(h.Pages) > 30 {
			return
		}
		got := made.call(h)
		wanted := copyRun(got)
		ofGot, ofWanted := spoilers(got.Heap), spoilers(wanted.Heap)
		for i := range ofGot {
			ofGot[i]()
			ofWanted[i]()
			checkSameRun(t, made.name+", one list overwritten", got, wanted)
		}
	})
}

func TestP1ListsThatShareMemoryAreTakenApartWhateverIsDone(t *testing.T) {
	full := slabWithout(3)
	h := heapOf(2, full, full, freePage())
	h.Pages[1].Used = h.Pages[0].Used
	places := []int64{24, 8, 0, 0}
	h.Mags = [][]int64{nil, nil, nil, places[:1], nil, nil, nil, places[1:2]}
	wanted := copyHeap(h)
	for _, o := range []impl.Op{freeAt(0), freeAt(16), allocOf(8), zeroOf(8), allocOf(48), growAt(0, 9), growAt(0, 48), writeAt(3, 9), statsOp(), {}} {
		for cpu := range int64(2) {
			checkDone(t, "pages that share their slots, magazines that share their places", h, cpu, o)
			impl.RunHeap(h, []impl.Request{requestOf(cpu, o), requestOf(1-cpu, o), requestOf(cpu, freeAt(16))})
			if !equalHeaps(h, wanted) || !slices.Equal(places, []int64{24, 8, 0, 0}) {
				t.Errorf("the op %v changed what is shared", o)
			}
		}
	}
	got := impl.DoHeap(h, 0, statsOp()).Heap
	spoilUsed(got.Pages[0].Used)
	if !slices.Equal(got.Pages[1].Used, full.Used) {
		t.Error("two pages of an answer share their slots")
	}
}

func TestP1NothingOfAnOpIsKept(t *testing.T) {
	heaps := []impl.Heap{mixedHeap(), fullHeap(), heapOf(1, freePages(4)...), {}}
	for _, made := range opCalls() {
		for _, h := range heaps {
			wanted := made.call(h)
			for _, between := range []impl.Op{allocOf(8), freeAt(34), growAt(48, 64), writeAt(34, 5), {}} {
				impl.DoHeap(mixedHeap(), 0, between)
				impl.DoHeap(fullHeap(), 1, between)
				impl.DoHeap(h, 0, between)
			}
			checkSameRun(t, made.name+", once more", made.call(h), wanted)
		}
	}
}

func TestP1NilAndEmptyListsAreTheSameWhateverIsDone(t *testing.T) {
	forEachOpCall(func(made opCall, h impl.Heap) {
		empty := copyHeap(h)
		for i := range empty.Mags {
			if len(empty.Mags[i]) == 0 {
				empty.Mags[i] = []int64{}
			}
		}
		for i := range empty.Pages {
			if len(empty.Pages[i].Used) == 0 {
				empty.Pages[i].Used = []bool{}
			}
		}
		checkSameRun(t, made.name+", empty lists", made.call(empty), made.call(h))
	})
}

func TestP1WithACodeWhatIsAnsweredIsZero(t *testing.T) {
	codes, replies := map[int64]int{}, map[int64]int{}
	forEachOpCall(func(made opCall, h impl.Heap) {
		got := made.call(h)
		codes[got.Code]++
		if made.name == "DoHeap" {
			if got.Code != impl.OK {
				checkNoHeap(t, made.name, impl.HeapResult{Code: got.Code, Heap: got.Heap, Reply: got.Replies[0]}, got.Code)
			}
		} else if got.Code != impl.OK {
			checkNoRun(t, made.name, got, got.Code)
		}
		for _, reply := range got.Replies {
			replies[reply.Code]++
			if reply.Code != impl.OK && reply.Value != 0 {
				t.Errorf("%s: the reply %v", made.name, reply)
			}
		}
	})
	for _, code := range []int64{impl.OK, impl.ErrForm, impl.ErrMany, impl.ErrRange, impl.ErrNone, impl.ErrTaken, impl.ErrState} {
		if codes[code] == 0 {
			t.Error("nothing told the code", code)
		}
	}
	for _, code := range []int64{impl.OK, impl.ErrForm, impl.ErrRange, impl.ErrNone, impl.ErrQuota} {
		if replies[code] == 0 {
			t.Error("no reply had the code", code)
		}
	}
}
