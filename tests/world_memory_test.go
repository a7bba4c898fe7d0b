package tests

import (
	"slices"
	"testing"

	"loop.example/g00729/impl"
)

var (
	strangeEvent = impl.Event{Kind: 70, Tenant: 71, Cpu: 72, Op: impl.Op{Kind: 73, At: 74, N: 75, Value: 76}, Pages: 77}
	strangeReply = impl.EventReply{Code: 80, Done: true, Reply: impl.Reply{Code: 81, Value: 82}, Steps: 83, Waited: 84}
	strangeCpu   = impl.Cpu{Busy: true, Op: impl.Op{Kind: 85}, Steps: 86, Waited: 87}
)

// withBehind is a copy of list that has one element more in the memory behind it.
func withBehind[T any](list []T, behind T) []T {
	return append(slices.Clone(list), behind)[:len(list)]
}

// behindOf is the element that stands in the memory behind list.
func behindOf[T any](list []T) T {
	return list[:len(list)+1][len(list)]
}

// roomyState is a copy that has more memory behind each of its lists, which must stay, too.
func roomyState(state impl.TenantState) impl.TenantState {
	h := roomyHeap(impl.Heap{Pages: state.Pages, Mags: state.Mags})
	return impl.TenantState{
		Alive: state.Alive, Pages: h.Pages, Mags: h.Mags, Table: impl.Table{Tenant: state.Table.Tenant, Frames: roomy(state.Table.Frames)},
		Tickets: roomy(state.Tickets), Cpus: withBehind(state.Cpus, strangeCpu),
	}
}

func roomyWorld(w impl.World) impl.World {
	tenants := withBehind(w.Tenants, impl.TenantState{Tickets: testPage()})
	for i := range tenants {
		tenants[i] = roomyState(w.Tenants[i])
	}
	return impl.World{Words: roomy(w.Words), Tenants: tenants, Replies: withBehind(w.Replies, strangeReply)}
}

// checkKeptState wants the roomyState of before as it was made, and the memory behind its lists, too.
func checkKeptState(t *testing.T, name string, given, before impl.TenantState) {
	t.Helper()
	if !equalStates(given, before) || behindOf(given.Cpus) != strangeCpu {
		t.Errorf("%s: a tenant was changed:\nbefore %v\nbehind %v", name, before, given)
	}
	checkKeptHeap(t, name, impl.Heap{Pages: given.Pages, Mags: given.Mags, Words: roomy(nil)}, impl.Heap{Pages: before.Pages, Mags: before.Mags})
	checkKept(t, name+", the frames", given.Table.Frames, before.Table.Frames)
	checkKept(t, name+", the tickets", given.Tickets, before.Tickets)
}

func checkKeptWorld(t *testing.T, name string, given, before impl.World) {
	t.Helper()
	if !equalWorlds(given, before) || behindOf(given.Replies) != strangeReply || !slices.Equal(behindOf(given.Tenants).Tickets, testPage()) {
		t.Fatalf("%s: a world was changed:\nbefore %v\nbehind %v", name, before, given)
	}
	checkKept(t, name+", the words", given.Words, before.Words)
	for i, state := range given.Tenants {
		checkKeptState(t, name, state, before.Tenants[i])
	}
}

func fill[T any](list []T, with T) {
	whole := list[:cap(list)]
	for i := range whole {
		whole[i] = with
	}
}

// worldSpoilers overwrite all that the memory of one list holds, each. The lists of lists come last, so that all others are there until then.
func worldSpoilers(w impl.World) []func() {
	list := []func(){func() { spoil(w.Words) }, func() { fill(w.Replies, strangeReply) }}
	for _, state := range w.Tenants {
		list = append(list, spoilers(impl.Heap{Pages: state.Pages, Mags: state.Mags})...)
		list = append(list, func() { spoil(state.Table.Frames) }, func() { spoil(state.Tickets) }, func() { fill(state.Cpus, strangeCpu) })
	}
	for _, state := range w.Tenants {
		list = append(list, func() { fill(state.Pages, strangePage()) }, func() { fill(state.Mags, []int64{5, 5, 5}) })
	}
	return append(list, func() { fill(w.Tenants, impl.TenantState{Alive: true, Tickets: []int64{9}}) })
}

func spoilWorld(w impl.World) {
	for _, spoilOne := range worldSpoilers(w) {
		spoilOne()
	}
}

// manyWorlds is worlds behind events of all kinds, and ones from outside.
func manyWorlds() []impl.World {
	worlds := someWorlds()
	for number, c := range worldConfigs() {
		events := newWorldWalker(c, uint32(number)+7).events(200)
		for _, count := range []int{50, 120, 200} {
			worlds = append(worlds, impl.RunWorld(c, events[:count]).World)
		}
	}
	return worlds
}

// manyEvents is lists of events that can be, and ones that cannot.
func manyEvents() [][]impl.Event {
	return [][]impl.Event{nil, {createOf(0, 3)}, pairEvents(), behindPair(destroyOf(1)), faultyEvents(), newWorldWalker(pairConfig(), 3).events(250), newWorldWalker(testConfig(), 4).events(120), make([]impl.Event, 251)}
}

func TestP1TheConfigAndTheEventsStay(t *testing.T) {
	for _, c := range append(worldConfigs(), manyConfigs()...) {
		for _, events := range manyEvents() {
			givenConfig, given := roomyConfig(c), withBehind(events, strangeEvent)
			impl.RunWorld(givenConfig, given)
			checkKeptConfig(t, "RunWorld", givenConfig, c)
			if !slices.Equal(given, events) || behindOf(given) != strangeEvent {
				t.Error("RunWorld changed its events, or what is behind them")
			}
		}
	}
}

func TestP1AWorldStays(t *testing.T) {
	for _, w := range manyWorlds() {
		given, other := roomyWorld(w), roomyWorld(outsideWorld())
		for tenant := int64(-1); tenant < 4; tenant++ {
			impl.HeapOf(given, tenant)
		}
		impl.SameWorlds(given, other)
		impl.SameWorlds(given, given)
		impl.SameEventReplies(given.Replies, other.Replies)
		for _, state := range given.Tenants {
			impl.SameStates(state, other.Tenants[0])
			impl.SameStates(other.Tenants[1], state)
		}
		checkKeptWorld(t, "the first world", given, w)
		checkKeptWorld(t, "the second world", other, outsideWorld())
	}
}

func TestP1AWorldThatIsAnsweredIsNewMemory(t *testing.T) {
	for _, c := range worldConfigs() {
		for _, events := range manyEvents() {
			givenConfig, given := roomyConfig(c), slices.Clone(events)
			first, second := impl.RunWorld(givenConfig, given), impl.RunWorld(givenConfig, given)
			wanted := copyWorld(second.World)
			spoilWorld(first.World)
			checkKeptConfig(t, "its answer overwritten", givenConfig, c)
			if !slices.Equal(given, events) || !equalWorlds(second.World, wanted) {
				t.Error("RunWorld: its answer overwritten changes the events, or another answer")
			}
			spoilGiven(tableGiven{c: givenConfig})
			fill(given, strangeEvent)
			if !equalWorlds(second.World, wanted) {
				t.Error("RunWorld: its arguments overwritten change the answer")
			}
			if again := impl.RunWorld(c, events).World; !equalWorlds(again, wanted) {
				t.Errorf("RunWorld, once more:\ngot    %v\nwanted %v", again, wanted)
			}
		}
	}
}

func TestP1TheListsOfAWorldShareNothing(t *testing.T) {
	spoiled := 0
	for _, c := range worldConfigs() {
		for _, events := range manyEvents() {
			got := impl.RunWorld(c, events).World
			wanted := copyWorld(got)
			ofGot, ofWanted := worldSpoilers(got), worldSpoilers(wanted)
			for i := range ofGot {
				ofGot[i]()
				ofWanted[i]()
				spoiled++
				if !equalWorlds(got, wanted) {
					t.Fatalf("one list overwritten:\ngot    %v\nwanted %v", got, wanted)
				}
			}
		}
	}
	if spoiled < 1000 {
		t.Error("just so many lists were overwritten:", spoiled)
	}
}

func TestP1AHeapOfAWorldIsNewMemory(t *testing.T) {
	answered := 0
	for _, w := range manyWorlds() {
		for tenant := range int64(3) {
			given := roomyWorld(w)
			first, second := impl.HeapOf(given, tenant), impl.HeapOf(given, tenant)
			if first.Code != impl.OK {
				continue
			}
			answered++
			wanted := copyHeap(second.Heap)
			for i := range spoilers(first.Heap) {
				spoilers(first.Heap)[i]()
			}
			spoilHeap(first.Heap)
			checkKeptWorld(t, "HeapOf, its answer overwritten", given, w)
			spoilWorld(given)
			if !equalHeaps(second.Heap, wanted) {
				t.Errorf("HeapOf, all else overwritten:\ngot    %v\nwanted %v", second.Heap, wanted)
			}
			ofGot, ofWanted := spoilers(second.Heap), spoilers(wanted)
			for i := range ofGot {
				ofGot[i]()
				ofWanted[i]()
				if !equalHeaps(second.Heap, wanted) {
					t.Errorf("HeapOf, one list overwritten:\ngot    %v\nwanted %v", second.Heap, wanted)
				}
			}
		}
	}
	if answered < 30 {
		t.Error("just so many heaps were answered:", answered)
	}
}

func TestP1ListsOfAWorldThatShareMemoryAreTakenApart(t *testing.T) {
	used, places := []bool{true, false}, []int64{0, 1, 2, 3}
	pages := []impl.Page{{Kind: impl.PageSlab, Class: 3, Used: used}, {Kind: impl.PageSlab, Class: 3, Used: used}}
	words := append([]int64{1, 0}, make([]int64, 30)...)
	w := impl.World{Words: words, Tenants: []impl.TenantState{{Alive: true, Pages: pages, Mags: [][]int64{places[:2], places[1:3]}, Table: tableOf(0, words[:2]...), Tickets: words[:1]}}}
	w.Tenants = append(w.Tenants, w.Tenants[0])
	got := impl.HeapOf(w, 1).Heap
	if !slices.Equal(got.Words, slices.Concat(words[16:], words[:16])) {
		t.Error("the words are", got.Words)
	}
	wanted := copyHeap(got)
	got.Pages[0].Used[1], wanted.Pages[0].Used[1] = true, true
	got.Mags[0][1], wanted.Mags[0][1] = 99, 99
	got.Words[0], wanted.Words[0] = 98, 98
	if !equalHeaps(got, wanted) || !slices.Equal(used, []bool{true, false}) || !slices.Equal(places, []int64{0, 1, 2, 3}) || words[0] != 1 {
		t.Error("an answer shares memory with its world, or with itself:", got)
	}
}

func TestP1NothingOfAWorldIsKept(t *testing.T) {
	for _, c := range worldConfigs() {
		for _, events := range manyEvents() {
			wanted := impl.RunWorld(c, events)
			for _, other := range manyEvents() {
				impl.RunWorld(pairConfig(), other)
				impl.RunWorld(c, other)
				impl.RunWorld(impl.Config{}, other)
			}
			if got := impl.RunWorld(c, events); got.Code != wanted.Code || !equalWorlds(got.World, wanted.World) {
				t.Errorf("RunWorld, once more:\ngot    %v\nwanted %v", got, wanted)
			}
		}
	}
}

func TestP1NilAndEmptyListsOfAWorldAreTheSame(t *testing.T) {
	for _, w := range manyWorlds() {
		empty := copyWorld(w)
		for i := range empty.Tenants {
			state := &empty.Tenants[i]
			if len(state.Pages) == 0 {
				state.Pages, state.Table.Frames = []impl.Page{}, append(make([]int64, 0, 1), state.Table.Frames...)
			}
			for number := range state.Mags {
				state.Mags[number] = append(make([]int64, 0, 2), state.Mags[number]...)
			}
			for number := range state.Pages {
				state.Pages[number].Used = append(make([]bool, 0, 2), state.Pages[number].Used...)
			}
		}
		for tenant := range int64(3) {
			checkHeapAnswer(t, "HeapOf, empty lists", impl.HeapOf(empty, tenant), impl.HeapOf(w, tenant))
		}
		checkSameWorlds(t, "empty lists", empty, w, true)
	}
}

func TestP1WithACodeAWorldIsZero(t *testing.T) {
	codes, replies := map[int64]int{}, map[int64]int{}
	for _, c := range append(worldConfigs(), manyConfigs()...) {
		for _, events := range manyEvents() {
			got := impl.RunWorld(c, events)
			codes[got.Code]++
			if got.Code != impl.OK {
				checkNoWorld(t, "RunWorld", got, got.Code)
			}
			for _, reply := range got.World.Replies {
				replies[reply.Code]++
				if reply.Code != impl.OK && reply != refusedBy(reply.Code) || reply.Reply.Code != impl.OK && reply.Reply.Value != 0 {
					t.Error("a code, and more:", reply)
				}
			}
		}
	}
	for _, code := range []int64{impl.OK, impl.ErrForm, impl.ErrMany, impl.ErrRange, impl.ErrTaken} {
		if codes[code] == 0 {
			t.Error("nothing told the code", code)
		}
	}
	for _, code := range []int64{impl.OK, impl.ErrForm, impl.ErrRange, impl.ErrNone, impl.ErrTaken, impl.ErrState} {
		if replies[code] == 0 {
			t.Error("no reply had the code", code)
		}
	}
}
