package tests

import (
	"slices"
	"testing"

	"loop.example/g00729/impl"
)

func allocOf(n int64) impl.Op {
	return impl.Op{Kind: impl.OpAlloc, N: n}
}

func zeroOf(n int64) impl.Op {
	return impl.Op{Kind: impl.OpZero, N: n}
}

func freeAt(at int64) impl.Op {
	return impl.Op{Kind: impl.OpFree, At: at}
}

func growAt(at, n int64) impl.Op {
	return impl.Op{Kind: impl.OpGrow, At: at, N: n}
}

func readAt(at int64) impl.Op {
	return impl.Op{Kind: impl.OpRead, At: at}
}

func writeAt(at, value int64) impl.Op {
	return impl.Op{Kind: impl.OpWrite, At: at, Value: value}
}

func sizeAt(at int64) impl.Op {
	return impl.Op{Kind: impl.OpSize, At: at}
}

func statsOp() impl.Op {
	return impl.Op{Kind: impl.OpStats}
}

// cpusOf is how many processors the magazines of a right heap are for.
func cpusOf(h impl.Heap) int64 {
	return int64(len(h.Mags)) / 4
}

// wantedOpFault asks the fields by a table of what each kind has, apart from the program.
func wantedOpFault(o impl.Op) int64 {
	needed := map[int64]string{1: "N", 2: "N", 3: "A", 4: "AN", 5: "A", 6: "AV", 7: "A", 8: "-"}[o.Kind]
	hasMore := false
	for letter, number := range map[string]int64{"A": o.At, "N": o.N, "V": o.Value} {
		hasMore = hasMore || number != 0 && !slices.Contains([]byte(needed), letter[0])
	}
	if needed == "" || hasMore {
		return impl.ErrForm
	}
	if slices.Contains([]byte(needed), 'N') && (o.N < 1 || o.N > 64) || o.Value < -1000000000 || o.Value > 1000000000 {
		return impl.ErrRange
	}
	return impl.OK
}

// takeIn takes a block for n words without any drain, apart from the program; it gives its place, or -1.
func takeIn(h *impl.Heap, cpu, n int64) int64 {
	if n > 8 {
		return takeRunIn(h, n)
	}
	class := slices.IndexFunc(slotSizes, func(size int64) bool { return size >= n })
	mag := &h.Mags[4*int(cpu)+class]
	if last := len(*mag) - 1; last >= 0 {
		at := (*mag)[last]
		*mag = (*mag)[:last]
		return at
	}
	number, slot := wantedSlot(h.Pages, class)
	if number < 0 {
		return -1
	}
	if h.Pages[number].Kind == impl.PageFree {
		h.Pages[number] = slabOf(class)
	}
	h.Pages[number].Used[slot] = true
	return 16*int64(number) + slotSizes[class]*int64(slot)
}

func takeRunIn(h *impl.Heap, n int64) int64 {
	run := runOf(1)
	for int64(16*len(run)) < n {
		run = runOf(int64(len(run)) + 1)
	}
	for number := range h.Pages {
		if rest := h.Pages[number:]; len(rest) >= len(run) && equalPages(rest[:len(run)], freePages(len(run))) {
			copy(rest, run)
			return int64(16 * number)
		}
	}
	return -1
}

// wantedPlace takes a block for n words, apart from the program; where there is none, the heap that is answered is nothing.
func wantedPlace(h impl.Heap, cpu, n int64) (impl.Heap, int64, bool) {
	for _, tried := range []impl.Heap{copyHeap(h), wantedDrained(h)} {
		if at := takeIn(&tried, cpu, n); at >= 0 {
			return tried, at, true
		}
	}
	return impl.Heap{}, 0, false
}

// wantedFreed frees a block, apart from the program.
func wantedFreed(h impl.Heap, cpu int64, held holding) impl.Heap {
	freed := copyHeap(h)
	if class := slices.Index(slotSizes, held.size); class >= 0 {
		number := 4*int(cpu) + class
		if len(h.Mags[number]) < 2 {
			freed.Mags[number] = append(freed.Mags[number], held.start)
			return freed
		}
	}
	freed.Pages = withoutHeld(h.Pages, held)
	for at := range freed.Words {
		if freed.Pages[at/16].Kind == impl.PageFree {
			freed.Words[at] = 0
		}
	}
	return freed
}

// wantedDone is what comes of an op on a right heap, worked out apart from the program.
func wantedDone(h impl.Heap, cpu int64, o impl.Op) impl.HeapResult {
	code := wantedOpFault(o)
	if code != impl.OK {
		return impl.HeapResult{Heap: h, Reply: impl.Reply{Code: code}}
	}
	switch o.Kind {
	case impl.OpStats:
		used := int64(0)
		for _, page := range h.Pages {
			used += map[bool]int64{true: 1}[page.Kind != impl.PageFree]
		}
		return impl.HeapResult{Heap: h, Reply: impl.Reply{Value: used}}
	case impl.OpAlloc, impl.OpZero:
		after, at, isPlaced := wantedPlace(h, cpu, o.N)
		if !isPlaced {
			return impl.HeapResult{Heap: h, Reply: impl.Reply{Code: impl.ErrQuota}}
		}
		if o.Kind == impl.OpZero {
			clear(after.Words[at : at+holdingsOf(after.Pages)[at].size])
		}
		return impl.HeapResult{Heap: after, Reply: impl.Reply{Value: at}}
	}
	return wantedDoneAt(h, cpu, o)
}

func wantedDoneAt(h impl.Heap, cpu int64, o impl.Op) impl.HeapResult {
	refused := func(code int64) impl.HeapResult { return impl.HeapResult{Heap: h, Reply: impl.Reply{Code: code}} }
	if o.At < 0 || o.At >= int64(len(h.Words)) {
		return refused(impl.ErrRange)
	}
	held := liveHoldings(h)[o.At]
	switch {
	case held.size == 0:
		return refused(impl.ErrNone)
	case o.Kind == impl.OpRead:
		return impl.HeapResult{Heap: h, Reply: impl.Reply{Value: h.Words[o.At]}}
	case o.Kind == impl.OpWrite:
		return impl.HeapResult{Heap: withWordAt(h, int(o.At), o.Value)}
	case held.start != o.At:
		return refused(impl.ErrForm)
	case o.Kind == impl.OpSize:
		return impl.HeapResult{Heap: h, Reply: impl.Reply{Value: held.size}}
	case o.Kind == impl.OpFree:
		return impl.HeapResult{Heap: wantedFreed(h, cpu, held)}
	case held.size >= o.N:
		return impl.HeapResult{Heap: h, Reply: impl.Reply{Value: o.At}}
	}
	after, at, isPlaced := wantedPlace(h, cpu, o.N)
	if !isPlaced {
		return refused(impl.ErrQuota)
	}
	for i := range held.size {
		after.Words[at+i] = h.Words[held.start+i]
	}
	return impl.HeapResult{Heap: wantedFreed(after, cpu, held), Reply: impl.Reply{Value: at}}
}

// checkReply wants OK, just this reply and just this heap, and that it has no fault.
func checkReply(t *testing.T, name string, got impl.HeapResult, reply impl.Reply, h impl.Heap) {
	t.Helper()
	if got.Code != impl.OK || got.Reply != reply {
		t.Errorf("%s: code %d, reply %v, wanted the reply %v", name, got.Code, got.Reply, reply)
	}
	got.Reply = impl.Reply{}
	checkHeap(t, name, got, h)
}

// checkDone wants just what is worked out apart from the program, and gives it.
func checkDone(t *testing.T, name string, h impl.Heap, cpu int64, o impl.Op) impl.HeapResult {
	t.Helper()
	wanted := wantedDone(h, cpu, o)
	checkReply(t, name, impl.DoHeap(h, cpu, o), wanted.Reply, wanted.Heap)
	if t.Failed() {
		t.Fatalf("%s: the op %v of the processor %d, in %v", name, o, cpu, h)
	}
	return wanted
}

// checkRefused wants a reply with this code, and the heap as it was.
func checkRefused(t *testing.T, name string, h impl.Heap, cpu int64, o impl.Op, code int64) {
	t.Helper()
	checkReply(t, name, impl.DoHeap(h, cpu, o), impl.Reply{Code: code}, h)
}

// checkTurned wants a reply with this value, and just this heap; it is held against what is worked out, too.
func checkTurned(t *testing.T, name string, h impl.Heap, cpu int64, o impl.Op, value int64, wanted impl.Heap) {
	t.Helper()
	checkReply(t, name, impl.DoHeap(h, cpu, o), impl.Reply{Value: value}, wanted)
	checkDone(t, name, h, cpu, o)
}

// liveWords is the words of each block that lives, by the place where it begins.
func liveWords(h impl.Heap) map[int64][]int64 {
	words := map[int64][]int64{}
	blocks := holdingsOf(h.Pages)
	for _, start := range liveStarts(h) {
		words[start] = slices.Clone(h.Words[start : start+blocks[start].size])
	}
	return words
}

// checkStays wants each block of before that lives with its words in after, but the one that begins at gone.
func checkStays(t *testing.T, name string, before, after impl.Heap, gone int64) {
	t.Helper()
	now := liveWords(after)
	for start, words := range liveWords(before) {
		if start != gone && !slices.Equal(now[start], words) {
			t.Errorf("%s: the block at %d had %v, and has %v", name, start, words, now[start])
		}
	}
}
