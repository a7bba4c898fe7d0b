package tests

import (
	"slices"
	"testing"

	"loop.example/g00729/impl"
)

// stepsEach tells of each kind of op how many steps it takes.
var stepsEach = map[int64]int64{impl.OpAlloc: 3, impl.OpZero: 4, impl.OpFree: 2, impl.OpGrow: 5, impl.OpRead: 2, impl.OpWrite: 2, impl.OpSize: 1, impl.OpStats: 1}

func createOf(tenant, pages int64) impl.Event {
	return impl.Event{Kind: impl.EvCreate, Tenant: tenant, Pages: pages}
}

func resizeOf(tenant, pages int64) impl.Event {
	return impl.Event{Kind: impl.EvResize, Tenant: tenant, Pages: pages}
}

func destroyOf(tenant int64) impl.Event {
	return impl.Event{Kind: impl.EvDestroy, Tenant: tenant}
}

func issueOf(tenant, cpu int64, o impl.Op) impl.Event {
	return impl.Event{Kind: impl.EvIssue, Tenant: tenant, Cpu: cpu, Op: o}
}

func pickOf(tenant, cpu int64) impl.Event {
	return impl.Event{Kind: impl.EvPick, Tenant: tenant, Cpu: cpu}
}

// picksOf is so many picks of one processor.
func picksOf(tenant, cpu, count int64) []impl.Event {
	return slices.Repeat([]impl.Event{pickOf(tenant, cpu)}, int(count))
}

// doneBy is the events by which a processor does ops, one behind the other, where no other one is busy.
func doneBy(tenant, cpu int64, ops ...impl.Op) []impl.Event {
	var list []impl.Event
	for _, o := range ops {
		list = append(list, issueOf(tenant, cpu, o))
		list = append(list, picksOf(tenant, cpu, stepsEach[o.Kind])...)
	}
	return list
}

// pairConfig has three tenants with four frames each, which stand between those of the others; two of them have two processors.
func pairConfig() impl.Config {
	return configOf(12, 3, tenantOf(2, 0), tenantOf(2, 1), tenantOf(1, 2))
}

// worldConfigs is configs without a fault: with tenants that have no frames, some, and all.
func worldConfigs() []impl.Config {
	return append(tableConfigs(), pairConfig(), configOf(40, 8, tenantOf(2, 0, 4, 7), tenantOf(2, 1, 5), tenantOf(1, 2)))
}

// wantedEventFault asks the fields by a table of what each kind has, apart from the program.
func wantedEventFault(e impl.Event) int64 {
	needed := map[int64]string{1: "CO", 2: "C", 3: "P", 4: "P", 5: "-"}[e.Kind]
	hasMore := false
	for letter, isThere := range map[byte]bool{'C': e.Cpu != 0, 'O': e.Op != impl.Op{}, 'P': e.Pages != 0} {
		hasMore = hasMore || isThere && !slices.Contains([]byte(needed), letter)
	}
	if needed == "" || hasMore {
		return impl.ErrForm
	}
	if needed == "CO" {
		return wantedOpFault(e.Op)
	}
	return impl.OK
}

// lodger is what a tenant has, apart from the program: a heap of its own, the frames of its pages, and what its processors wait for, the first one first.
type lodger struct {
	alive  bool
	heap   impl.Heap
	frames []int64
	queue  []int64
	cpus   []impl.Cpu
}

// house has all tenants of a config. It has no arena: what stands there is told by the heaps.
type house struct {
	c       impl.Config
	lodgers []lodger
	replies []impl.EventReply
}

// houseBehind is what is there behind events.
func houseBehind(c impl.Config, events []impl.Event) *house {
	h := &house{c: c, lodgers: make([]lodger, len(c.Tenants))}
	for _, e := range events {
		h.replies = append(h.replies, h.answer(e))
	}
	return h
}

func refusedBy(code int64) impl.EventReply {
	return impl.EventReply{Code: code}
}

func (h *house) answer(e impl.Event) impl.EventReply {
	if code := wantedEventFault(e); code != impl.OK {
		return refusedBy(code)
	}
	if e.Tenant < 0 || e.Tenant >= int64(len(h.lodgers)) {
		return refusedBy(impl.ErrNone)
	}
	one := &h.lodgers[e.Tenant]
	isRoom := e.Pages >= 1 && e.Pages <= int64(len(ownFrames(h.c, e.Tenant)))
	switch {
	case e.Kind == impl.EvCreate && one.alive:
		return refusedBy(impl.ErrTaken)
	case e.Kind != impl.EvCreate && !one.alive:
		return refusedBy(impl.ErrNone)
	case (e.Kind == impl.EvCreate || e.Kind == impl.EvResize) && !isRoom:
		return refusedBy(impl.ErrRange)
	case e.Kind == impl.EvCreate:
		cpus := int(h.c.Tenants[e.Tenant].Cpus)
		*one = lodger{alive: true, heap: heapOf(cpus, freePages(int(e.Pages))...), cpus: make([]impl.Cpu, cpus)}
		h.settle(e.Tenant)
	case e.Kind == impl.EvDestroy:
		*one = lodger{}
	case e.Kind == impl.EvResize:
		resized, isFree := wantedResized(one.heap, int(e.Pages))
		if !isFree {
			return refusedBy(impl.ErrState)
		}
		one.heap = resized
		h.settle(e.Tenant)
	default:
		return h.turn(e)
	}
	return impl.EventReply{}
}

func (h *house) turn(e impl.Event) impl.EventReply {
	one := &h.lodgers[e.Tenant]
	if e.Cpu < 0 || e.Cpu >= int64(len(one.cpus)) {
		return refusedBy(impl.ErrRange)
	}
	cpu := &one.cpus[e.Cpu]
	if cpu.Busy == (e.Kind == impl.EvIssue) {
		return refusedBy(impl.ErrState)
	}
	if e.Kind == impl.EvIssue {
		*cpu = impl.Cpu{Busy: true, Op: e.Op}
		one.queue = append(one.queue, e.Cpu)
		return impl.EventReply{}
	}
	cpu.Steps++
	if one.queue[0] != e.Cpu {
		cpu.Waited++
	}
	reply := impl.EventReply{Steps: cpu.Steps, Waited: cpu.Waited}
	if cpu.Steps < cpu.Waited+stepsEach[cpu.Op.Kind] {
		return reply
	}
	done := wantedDone(one.heap, e.Cpu, cpu.Op)
	one.heap = done.Heap
	h.settle(e.Tenant)
	one.queue, *cpu = one.queue[1:], impl.Cpu{}
	reply.Done, reply.Reply = true, done.Reply
	return reply
}

// settle gives each page that is not free a frame, and takes those of all others away.
func (h *house) settle(tenant int64) {
	one := &h.lodgers[tenant]
	frames := slices.Repeat([]int64{-1}, len(one.heap.Pages))
	for page := range frames {
		if page < len(one.frames) && one.heap.Pages[page].Kind != impl.PageFree {
			frames[page] = one.frames[page]
		}
	}
	for page := range frames {
		if frames[page] == -1 && one.heap.Pages[page].Kind != impl.PageFree {
			frames[page] = wantedFrameFor(h.c, tableOf(tenant, frames...))
		}
	}
	one.frames = frames
}

// world lays the words of all heaps in an arena of zeros.
func (h *house) world() impl.World {
	w := impl.World{Words: make([]int64, 16*h.c.Frames), Replies: h.replies}
	for tenant, one := range h.lodgers {
		for page, frame := range one.frames {
			if frame != -1 {
				copy(w.Words[16*frame:], one.heap.Words[16*page:16*page+16])
			}
		}
		w.Tenants = append(w.Tenants, impl.TenantState{Alive: one.alive, Pages: one.heap.Pages, Mags: one.heap.Mags, Table: tableOf(int64(tenant), one.frames...), Tickets: one.queue, Cpus: one.cpus})
	}
	return w
}

// wantedWorld is the world behind events, worked out apart from the program.
func wantedWorld(c impl.Config, events []impl.Event) impl.World {
	return houseBehind(c, events).world()
}

// equalStates holds tenants against each other apart from the program; nil and an empty list are the same.
func equalStates(a, b impl.TenantState) bool {
	return a.Alive == b.Alive && equalHeaps(impl.Heap{Pages: a.Pages, Mags: a.Mags}, impl.Heap{Pages: b.Pages, Mags: b.Mags}) &&
		equalTables(a.Table, b.Table) && slices.Equal(a.Tickets, b.Tickets) && slices.Equal(a.Cpus, b.Cpus)
}

func equalWorlds(a, b impl.World) bool {
	return slices.Equal(a.Words, b.Words) && slices.EqualFunc(a.Tenants, b.Tenants, equalStates) && slices.Equal(a.Replies, b.Replies)
}

// copyState shares no memory with the tenant.
func copyState(state impl.TenantState) impl.TenantState {
	h := copyHeap(impl.Heap{Pages: state.Pages, Mags: state.Mags})
	return impl.TenantState{Alive: state.Alive, Pages: h.Pages, Mags: h.Mags, Table: copyTable(state.Table), Tickets: slices.Clone(state.Tickets), Cpus: slices.Clone(state.Cpus)}
}

// copyWorld shares no memory with w.
func copyWorld(w impl.World) impl.World {
	tenants := slices.Clone(w.Tenants)
	for i := range tenants {
		tenants[i] = copyState(w.Tenants[i])
	}
	return impl.World{Words: slices.Clone(w.Words), Tenants: tenants, Replies: slices.Clone(w.Replies)}
}

// checkWorld wants OK and just the world that is worked out apart from the program, and gives it.
func checkWorld(t *testing.T, name string, c impl.Config, events []impl.Event) impl.World {
	t.Helper()
	got, wanted := impl.RunWorld(c, events), wantedWorld(c, events)
	if got.Code != impl.OK {
		t.Fatalf("%s: code %d", name, got.Code)
	}
	for i, reply := range wanted.Replies {
		if i >= len(got.World.Replies) || got.World.Replies[i] != reply {
			t.Fatalf("%s: the replies %v\nare at %d not as wanted, %v,\nto the event %v", name, got.World.Replies, i, reply, events[i])
		}
	}
	for tenant, state := range wanted.Tenants {
		if tenant >= len(got.World.Tenants) || !equalStates(got.World.Tenants[tenant], state) {
			t.Fatalf("%s: the tenants %v\nare at %d not as wanted, %v,\nbehind %v", name, got.World.Tenants, tenant, state, events)
		}
	}
	if !equalWorlds(got.World, wanted) {
		t.Fatalf("%s: the world\ngot    %v\nwanted %v,\nbehind %v", name, got.World, wanted, events)
	}
	checkRightWorld(t, name, c, got.World)
	return got.World
}

// checkRightWorld wants tenants without a fault, a frame for each page that is not free and for no other one, and zeros in all frames that nobody has.
func checkRightWorld(t *testing.T, name string, c impl.Config, w impl.World) {
	t.Helper()
	isHeld := map[int64]bool{}
	for tenant, state := range w.Tenants {
		if code := impl.TableFault(c, state.Table); code != impl.OK || state.Table.Tenant != int64(tenant) {
			t.Fatalf("%s: fault %d of the table %v", name, code, state.Table)
		}
		for page, frame := range state.Table.Frames {
			if (frame != -1) != (state.Pages[page].Kind != impl.PageFree) || isHeld[frame] && frame != -1 {
				t.Fatalf("%s: the page %d of the tenant %d has the frame %d", name, page, tenant, frame)
			}
			isHeld[frame] = true
		}
		if !state.Alive {
			checkNoHeap(t, name+", a tenant that is not alive", impl.HeapOf(w, int64(tenant)), impl.ErrNone)
			continue
		}
		got := impl.HeapOf(w, int64(tenant))
		checkHeap(t, name+", the heap of a tenant", got, impl.Heap{Pages: state.Pages, Mags: state.Mags, Words: wantedGathered(state.Table, w.Words)})
	}
	for frame := range c.Frames {
		if !isHeld[frame] && !impl.IsZeroFrame(w.Words, frame) {
			t.Fatalf("%s: nobody has the frame %d, and it is not of zeros", name, frame)
		}
	}
}

// checkNoWorld wants this code and nothing beside it.
func checkNoWorld(t *testing.T, name string, got impl.WorldResult, code int64) {
	t.Helper()
	if got.Code != code || len(got.World.Words)+len(got.World.Tenants)+len(got.World.Replies) != 0 {
		t.Errorf("%s: %v, wanted the code %d alone", name, got, code)
	}
}

// checkReplies wants just these replies to the last events, and the world that is worked out apart from the program, and gives it.
func checkReplies(t *testing.T, name string, c impl.Config, events []impl.Event, wanted ...impl.EventReply) impl.World {
	t.Helper()
	w := checkWorld(t, name, c, events)
	if got := w.Replies[len(events)-len(wanted):]; !slices.Equal(got, wanted) {
		t.Errorf("%s: the last replies\ngot    %v\nwanted %v", name, got, wanted)
	}
	return w
}

// checkTurnsNothing wants a reply with this code alone, and all else as it was ahead of the event.
func checkTurnsNothing(t *testing.T, name string, c impl.Config, events []impl.Event, e impl.Event, code int64) {
	t.Helper()
	before := impl.RunWorld(c, events).World
	after := checkReplies(t, name, c, append(slices.Clone(events), e), refusedBy(code))
	before.Replies = after.Replies
	if !equalWorlds(before, after) {
		t.Errorf("%s: the event %v has a code, and turned\n%v\nto     %v", name, e, before, after)
	}
}
