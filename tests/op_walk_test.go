package tests

import (
	"slices"
	"testing"

	"loop.example/g00729/impl"
)

// opWalker does ops by numbers that a short rule tells, and keeps the words of each block that it thinks lives.
type opWalker struct {
	*walker
	heap  impl.Heap
	words map[int64][]int64
	told  map[int64]int
}

func newOpWalker(pages int, cpus int64, number uint32) *opWalker {
	return &opWalker{walker: newWalker(0, number), heap: impl.NewHeap(int64(pages), cpus).Heap, words: map[int64][]int64{}, told: map[int64]int{}}
}

// starts is the places where blocks begin that live, rising.
func (w *opWalker) starts() []int64 {
	var list []int64
	for start := range w.words {
		list = append(list, start)
	}
	slices.Sort(list)
	return list
}

// place is one where a block begins, most of the time.
func (w *opWalker) place() int64 {
	starts := w.starts()
	if len(starts) == 0 || w.next(6) == 0 {
		return int64(w.next(len(w.heap.Words)+2) - 1)
	}
	return starts[w.next(len(starts))]
}

// any is an op of each kind, with sizes of slots most of the time.
func (w *opWalker) any() impl.Op {
	n := int64(1 + w.next(8))
	if w.next(3) == 0 {
		n = int64(1 + w.next(impl.MaxSize))
	}
	at := w.place()
	switch kind := w.next(16); {
	case kind < 4:
		return allocOf(n)
	case kind < 6:
		return zeroOf(n)
	case kind < 10:
		return freeAt(at)
	case kind < 12:
		return growAt(at, n)
	case kind == 12:
		return readAt(at + n%4)
	case kind == 13:
		return writeAt(at+n%4, n-int64(w.next(100)))
	case kind == 14:
		return sizeAt(at)
	}
	return statsOp()
}

// blockWith gives the words of the block that has this place in it, and where it begins, or nothing.
func (w *opWalker) blockWith(at int64) ([]int64, int64) {
	for start, words := range w.words {
		if at >= start && at < start+int64(len(words)) {
			return words, start
		}
	}
	return nil, 0
}

// wantedCode is the code of an op of one place; only whether there is room is not told.
func (w *opWalker) wantedCode(o impl.Op) int64 {
	words, start := w.blockWith(o.At)
	switch {
	case o.At < 0 || o.At >= int64(len(w.heap.Words)):
		return impl.ErrRange
	case words == nil:
		return impl.ErrNone
	case start != o.At && o.Kind != impl.OpRead && o.Kind != impl.OpWrite:
		return impl.ErrForm
	}
	return impl.OK
}

// hasRoom asks the drained heap alone.
func (w *opWalker) hasRoom(n int64) bool {
	pages := impl.DrainHeap(w.heap).Heap.Pages
	if n > impl.MaxSmall {
		return impl.FindRun(pages, impl.PagesOf(n).Value).Code == impl.OK
	}
	return impl.FindSlot(pages, impl.ClassOf(n).Value).Code == impl.OK
}

// lay wants nothing that lives where a new block is, and keeps what words it has.
func (w *opWalker) lay(t *testing.T, at, n int64, after impl.Heap) {
	t.Helper()
	size := impl.BlockSize(after.Pages, at).Value
	if size < n || impl.LiveAt(after, at) != (impl.IntResult{Value: at}) {
		t.Fatalf("a block for %d words at %d has %d", n, at, size)
	}
	for place := at; place < at+size; place++ {
		if words, start := w.blockWith(place); words != nil {
			t.Fatalf("the new block at %d is in the one at %d", at, start)
		}
	}
	w.words[at] = slices.Clone(after.Words[at : at+size])
}

// follow wants of a reply what is promised, and turns the words that the walker keeps as the op does.
func (w *opWalker) follow(t *testing.T, o impl.Op, got impl.HeapResult) {
	t.Helper()
	value := got.Reply.Value
	switch old := w.words[o.At]; o.Kind {
	case impl.OpAlloc:
		w.lay(t, value, o.N, got.Heap)
	case impl.OpZero:
		w.lay(t, value, o.N, got.Heap)
		if slices.ContainsFunc(w.words[value], func(word int64) bool { return word != 0 }) {
			t.Fatalf("the block at %d is not cleared: %v", value, w.words[value])
		}
	case impl.OpFree:
		delete(w.words, o.At)
	case impl.OpGrow:
		if int64(len(old)) >= o.N {
			if value != o.At {
				t.Fatalf("the block at %d has %d words, and moved to %d for %d", o.At, len(old), value, o.N)
			}
			return
		}
		w.lay(t, value, o.N, got.Heap)
		if !slices.Equal(w.words[value][:len(old)], old) {
			t.Fatalf("the block at %d had %v, and at %d it has %v", o.At, old, value, w.words[value])
		}
		delete(w.words, o.At)
	case impl.OpRead:
		if words, start := w.blockWith(o.At); value != words[o.At-start] {
			t.Fatalf("the word at %d is %d, and %d was written last", o.At, value, words[o.At-start])
		}
	case impl.OpWrite:
		words, start := w.blockWith(o.At)
		words[o.At-start] = o.Value
	case impl.OpSize:
		if value != int64(len(old)) {
			t.Fatalf("the block at %d has %d words, not %d", o.At, len(old), value)
		}
	}
}

func (w *opWalker) step(t *testing.T) {
	t.Helper()
	o, cpu := w.any(), int64(w.next(len(w.heap.Mags)/4))
	got := checkDoneAs(t, w.heap, cpu, o)
	wanted := int64(impl.OK)
	if o.Kind != impl.OpAlloc && o.Kind != impl.OpZero && o.Kind != impl.OpStats {
		wanted = w.wantedCode(o)
	}
	isMore := o.Kind == impl.OpAlloc || o.Kind == impl.OpZero || o.Kind == impl.OpGrow && wanted == impl.OK && int64(len(w.words[o.At])) < o.N
	if isMore && !w.hasRoom(o.N) {
		wanted = impl.ErrQuota
	}
	if got.Reply.Code != wanted {
		t.Fatalf("the op %v: the reply %v, wanted the code %d, in %v", o, got.Reply, wanted, w.heap)
	}
	w.told[wanted]++
	if wanted == impl.OK {
		w.follow(t, o, got)
	} else if !impl.SameHeaps(got.Heap, w.heap) {
		t.Fatalf("the op %v has the code %d, and turned the heap", o, wanted)
	}
	w.heap = got.Heap
	w.check(t)
}

// checkDoneAs wants what is worked out apart from the program, and gives what the program tells.
func checkDoneAs(t *testing.T, h impl.Heap, cpu int64, o impl.Op) impl.HeapResult {
	t.Helper()
	checkDone(t, "a step", h, cpu, o)
	return impl.DoHeap(h, cpu, o)
}

// check wants a right heap in which just those blocks live that the walker thinks of, with their words.
func (w *opWalker) check(t *testing.T) {
	t.Helper()
	if code := impl.HeapFault(w.heap); code != impl.OK {
		t.Fatalf("fault %d of %v", code, w.heap)
	}
	now := liveWords(w.heap)
	if len(now) != len(w.words) {
		t.Fatalf("%d blocks live, and not %d", len(now), len(w.words))
	}
	for start, words := range w.words {
		if !slices.Equal(now[start], words) {
			t.Fatalf("the block at %d had %v, and has %v", start, words, now[start])
		}
	}
}

func TestP7AHeapStaysARightOneWhateverIsDone(t *testing.T) {
	told := map[int64]int{}
	for _, pages := range []int{1, 2, 3, 4, 6, 11, impl.MaxPages} {
		for number := range uint32(4) {
			w := newOpWalker(pages, int64(1+number%2), number)
			for range 300 {
				w.step(t)
			}
			for code, count := range w.told {
				told[code] += count
			}
		}
	}
	for _, code := range []int64{impl.OK, impl.ErrForm, impl.ErrRange, impl.ErrNone, impl.ErrQuota} {
		if told[code] < 50 {
			t.Error("too few replies of one code:", told)
		}
	}
}

// TestP7WhatIsFreedMakesRoomAgain fills a heap with blocks of one size, frees them all, and fills it once more.
func TestP7WhatIsFreedMakesRoomAgain(t *testing.T) {
	for _, pages := range []int64{1, 4, 7} {
		for _, n := range []int64{1, 2, 4, 8, 16, 32, 48, 64} {
			h := impl.NewHeap(pages, 2).Heap
			var counts []int
			for range 2 {
				var places []int64
				for len(places) < 1000 {
					got := impl.DoHeap(h, int64(len(places)%2), allocOf(n))
					if got.Reply.Code != impl.OK {
						break
					}
					h, places = got.Heap, append(places, got.Reply.Value)
				}
				counts = append(counts, len(places))
				for i, at := range places {
					h = impl.DoHeap(h, int64(i/3%2), freeAt(at)).Heap
				}
				checkList(t, "all is freed", impl.LiveBlocks(h), nil)
			}
			size := max(n, 16) / 16 * 16
			wanted := int(16 * pages / n)
			if n > 8 {
				wanted = int(16 * pages / size)
			}
			if counts[0] != wanted || counts[1] != wanted {
				t.Errorf("%d pages have room for %v blocks of %d words, wanted %d", pages, counts, n, wanted)
			}
		}
	}
}
