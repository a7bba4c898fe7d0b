package tests

import (
	"slices"
	"testing"

	"loop.example/g00729/impl"
)

func checkSameStates(t *testing.T, name string, a, b impl.TenantState, wanted bool) {
	t.Helper()
	if impl.SameStates(a, b) != wanted || impl.SameStates(b, a) != wanted {
		t.Errorf("%s: %v and %v, wanted %v", name, a, b, wanted)
	}
	in := impl.World{Words: testArena(1), Tenants: []impl.TenantState{{}, a}}
	if impl.SameWorlds(in, withTenant(in, 1, b)) != wanted || impl.SameWorlds(withTenant(in, 1, b), in) != wanted {
		t.Errorf("%s, in a world: %v and %v, wanted %v", name, a, b, wanted)
	}
}

func checkSameWorlds(t *testing.T, name string, a, b impl.World, wanted bool) {
	t.Helper()
	if impl.SameWorlds(a, b) != wanted || impl.SameWorlds(b, a) != wanted {
		t.Errorf("%s: %v and %v, wanted %v", name, a, b, wanted)
	}
}

func checkSameEventReplies(t *testing.T, name string, a, b []impl.EventReply, wanted bool) {
	t.Helper()
	if impl.SameEventReplies(a, b) != wanted || impl.SameEventReplies(b, a) != wanted {
		t.Errorf("%s: %v and %v, wanted %v", name, a, b, wanted)
	}
	checkSameWorlds(t, name+", in a world", impl.World{Replies: a}, impl.World{Replies: b}, wanted)
}

// someStates is tenants that are right and ones that are not; no two of them are the same.
func someStates() []impl.TenantState {
	w := impl.RunWorld(pairConfig(), pairEvents()).World
	return slices.Concat(w.Tenants, outsideWorld().Tenants, []impl.TenantState{{}, {Alive: true}, {Tickets: []int64{0}}, {Tickets: []int64{0, 0}}, {Cpus: make([]impl.Cpu, 1)}, {Cpus: make([]impl.Cpu, 2)}, {Mags: make([][]int64, 1)}, {Pages: freePages(1)}})
}

// someWorlds is worlds that are right and ones that are not.
func someWorlds() []impl.World {
	worlds := []impl.World{{}, outsideWorld(), {Words: []int64{0}}, {Tenants: make([]impl.TenantState, 1)}, {Replies: make([]impl.EventReply, 1)}, {Words: testArena(41), Tenants: make([]impl.TenantState, 9)}}
	for count := 0; count <= len(pairEvents()); count += 3 {
		worlds = append(worlds, impl.RunWorld(pairConfig(), pairEvents()[:count]).World)
	}
	return append(worlds, impl.RunWorld(testConfig(), nil).World, impl.RunWorld(wideConfig(), []impl.Event{createOf(0, 40)}).World)
}

// numbersIn points at each number of a tenant, at each depth.
func numbersIn(state *impl.TenantState) []*int64 {
	list := []*int64{&state.Table.Tenant}
	for i := range state.Pages {
		list = append(list, &state.Pages[i].Kind, &state.Pages[i].Class, &state.Pages[i].Run)
	}
	for _, numbers := range append(slices.Clone(state.Mags), state.Table.Frames, state.Tickets) {
		for i := range numbers {
			list = append(list, &numbers[i])
		}
	}
	for i := range state.Cpus {
		cpu := &state.Cpus[i]
		list = append(list, &cpu.Steps, &cpu.Waited, &cpu.Op.Kind, &cpu.Op.At, &cpu.Op.N, &cpu.Op.Value)
	}
	return list
}

// boolsIn points at each bool of a tenant, at each depth.
func boolsIn(state *impl.TenantState) []*bool {
	list := []*bool{&state.Alive}
	for _, page := range state.Pages {
		for i := range page.Used {
			list = append(list, &page.Used[i])
		}
	}
	for i := range state.Cpus {
		list = append(list, &state.Cpus[i].Busy)
	}
	return list
}

func TestP1SameStatesOfEachTwo(t *testing.T) {
	all := someStates()
	for i, a := range all {
		checkSameStates(t, "a tenant and itself", a, a, true)
		checkSameStates(t, "a tenant and its copy", a, copyState(a), true)
		for _, b := range all[:i] {
			checkSameStates(t, "two tenants", a, b, equalStates(a, b))
		}
	}
}

func TestP1SameStatesLooksAtEachField(t *testing.T) {
	looked := 0
	for _, state := range someStates() {
		changed := copyState(state)
		for _, number := range numbersIn(&changed) {
			for _, away := range []int64{1, -1, 1 << 8, 1 << 32, -1 << 63} {
				*number += away
				checkSameStates(t, "one number differs", state, changed, false)
				*number -= away
				looked++
			}
		}
		for _, is := range boolsIn(&changed) {
			*is = !*is
			checkSameStates(t, "one bool differs", state, changed, false)
			*is = !*is
			looked++
		}
		checkSameStates(t, "nothing differs any more", state, changed, true)
	}
	if looked < 500 {
		t.Error("just so many fields were looked at:", looked)
	}
}

func TestP1SameStatesCountsTheLists(t *testing.T) {
	for _, state := range someStates() {
		lengthened := make([]impl.TenantState, 6)
		for i := range lengthened {
			lengthened[i] = copyState(state)
		}
		lengthened[0].Pages = append(lengthened[0].Pages, freePage())
		lengthened[1].Mags = append(lengthened[1].Mags, nil)
		lengthened[2].Table.Frames = append(lengthened[2].Table.Frames, 0)
		lengthened[3].Tickets = append(lengthened[3].Tickets, 0)
		lengthened[4].Cpus = append(lengthened[4].Cpus, impl.Cpu{})
		lengthened[5].Table.Frames = append([]int64{-1}, lengthened[5].Table.Frames...)
		for i, longer := range lengthened {
			checkSameStates(t, "one list is longer", state, longer, false)
			for _, other := range lengthened[:i] {
				checkSameStates(t, "one list each is longer", other, longer, equalStates(other, longer))
			}
		}
		for number, mag := range state.Mags {
			changed := copyState(state)
			changed.Mags[number] = append(changed.Mags[number], 0)
			checkSameStates(t, "one place more", state, changed, false)
			if len(mag) > 0 {
				changed.Mags[number] = mag[1:]
				checkSameStates(t, "one place fewer", state, changed, false)
			}
		}
	}
}

func TestP1SameStatesLooksAtTheOrder(t *testing.T) {
	base := impl.TenantState{
		Pages: []impl.Page{slabOf(0, 1), slabOf(1, 0)}, Mags: [][]int64{{3, 5}, {7}}, Table: tableOf(0, 4, 2), Tickets: []int64{1, 0},
		Cpus: []impl.Cpu{{Steps: 1}, {Waited: 1}},
	}
	for i, turn := range []func(state *impl.TenantState){
		func(state *impl.TenantState) { slices.Reverse(state.Pages) },
		func(state *impl.TenantState) { slices.Reverse(state.Mags) },
		func(state *impl.TenantState) { slices.Reverse(state.Mags[0]) },
		func(state *impl.TenantState) { slices.Reverse(state.Table.Frames) },
		func(state *impl.TenantState) { slices.Reverse(state.Tickets) },
		func(state *impl.TenantState) { slices.Reverse(state.Cpus) },
		func(state *impl.TenantState) {
			state.Table.Frames, state.Tickets = state.Tickets, state.Table.Frames
		},
	} {
		changed := copyState(base)
		turn(&changed)
		checkSameStates(t, numbered("another order", int64(i)), base, changed, false)
	}
}

func TestP1SameStatesOfNilAndEmptyLists(t *testing.T) {
	empty := impl.TenantState{Pages: []impl.Page{}, Mags: [][]int64{}, Table: impl.Table{Frames: []int64{}}, Tickets: make([]int64, 0, 3), Cpus: []impl.Cpu{}}
	checkSameStates(t, "no lists", impl.TenantState{}, empty, true)
	checkSameStates(t, "empty magazines", impl.TenantState{Mags: make([][]int64, 4)}, impl.TenantState{Mags: [][]int64{{}, {}, nil, make([]int64, 0, 2)}}, true)
	checkSameStates(t, "no slots", impl.TenantState{Pages: freePages(2)}, impl.TenantState{Pages: []impl.Page{{Used: []bool{}}, {}}}, true)
	checkSameStates(t, "no magazines, and one that is empty", impl.TenantState{}, impl.TenantState{Mags: [][]int64{{}}}, false)
	checkSameWorlds(t, "no lists", impl.World{}, impl.World{Words: []int64{}, Tenants: []impl.TenantState{}, Replies: []impl.EventReply{}}, true)
	for _, a := range [][]impl.EventReply{nil, {}, make([]impl.EventReply, 0, 4)} {
		for _, b := range [][]impl.EventReply{nil, {}, make([]impl.EventReply, 4)[:0]} {
			checkSameEventReplies(t, "no replies", a, b, true)
		}
		for _, b := range [][]impl.EventReply{{{}}, {{}, {}}, {{Code: 1}}} {
			checkSameEventReplies(t, "no replies and some", a, b, false)
		}
	}
}

func TestP1SameWorldsOfEachTwo(t *testing.T) {
	all := someWorlds()
	for i, a := range all {
		checkSameWorlds(t, "a world and itself", a, a, true)
		checkSameWorlds(t, "a world and its copy", a, copyWorld(a), true)
		for _, b := range all[:i] {
			checkSameWorlds(t, "two worlds", a, b, equalWorlds(a, b))
		}
	}
}

func TestP1SameWorldsLooksAtEachField(t *testing.T) {
	for _, w := range []impl.World{outsideWorld(), impl.RunWorld(pairConfig(), pairEvents()).World} {
		for at := range w.Words {
			for _, away := range []int64{1, -1, 1 << 32, -1 << 63} {
				changed := copyWorld(w)
				changed.Words[at] += away
				checkSameWorlds(t, "one word differs", w, changed, false)
			}
		}
		for tenant := range w.Tenants {
			for _, state := range someStates() {
				changed := withTenant(w, tenant, state)
				checkSameWorlds(t, "one tenant differs", w, changed, equalStates(w.Tenants[tenant], state))
			}
			fewer := copyWorld(w)
			fewer.Tenants = slices.Delete(fewer.Tenants, tenant, tenant+1)
			checkSameWorlds(t, "one tenant fewer", w, fewer, false)
		}
		longer := []impl.World{copyWorld(w), copyWorld(w), copyWorld(w), copyWorld(w)}
		longer[0].Words = append(longer[0].Words, 0)
		longer[1].Tenants = append(longer[1].Tenants, impl.TenantState{})
		longer[2].Replies = append(longer[2].Replies, impl.EventReply{})
		longer[3].Words = longer[3].Words[1:]
		for _, other := range longer {
			checkSameWorlds(t, "another length", w, other, false)
		}
		turned := copyWorld(w)
		slices.Reverse(turned.Tenants)
		checkSameWorlds(t, "the tenants in another order", w, turned, false)
	}
}

func TestP1SameEventRepliesLooksAtEachField(t *testing.T) {
	list := []impl.EventReply{{}, {Code: 3}, stepped(2, 1), doneWith(-7, 5, 0), doneRefused(7, 3, 0), {Code: 99, Done: true, Steps: least, Waited: greatest}, {}}
	checkSameEventReplies(t, "a list and its copy", list, slices.Clone(list), true)
	for i := range list {
		for _, away := range []int64{1, -1, 1 << 8, 1 << 32, -1 << 63} {
			for field := range 5 {
				changed := slices.Clone(list)
				numbers := []*int64{&changed[i].Code, &changed[i].Reply.Code, &changed[i].Reply.Value, &changed[i].Steps, &changed[i].Waited}
				*numbers[field] += away
				checkSameEventReplies(t, "one number differs", list, changed, false)
			}
		}
		changed := slices.Clone(list)
		changed[i].Done = !changed[i].Done
		checkSameEventReplies(t, "whether it is done differs", list, changed, false)
		checkSameEventReplies(t, "one reply fewer", list, slices.Delete(slices.Clone(list), i, i+1), false)
		checkSameEventReplies(t, "one reply more", list, slices.Insert(slices.Clone(list), i, refusedBy(5)), false)
		checkSameEventReplies(t, "the first ones", list, list[:i], false)
	}
	turned := slices.Clone(list)
	slices.Reverse(turned)
	checkSameEventReplies(t, "another order", list, turned, false)
	checkSameEventReplies(t, "a step that was waited", []impl.EventReply{stepped(1, 0)}, []impl.EventReply{stepped(0, 1)}, false)
	checkSameEventReplies(t, "a code of the event, and of its reply", []impl.EventReply{refusedBy(4)}, []impl.EventReply{{Reply: impl.Reply{Code: 4}}}, false)
	checkSameEventReplies(t, "very many replies", make([]impl.EventReply, 5000), make([]impl.EventReply, 5000), true)
	checkSameEventReplies(t, "one reply more at the end", make([]impl.EventReply, 5000), make([]impl.EventReply, 5001), false)
}
