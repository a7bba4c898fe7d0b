package tests

import (
	"slices"
	"testing"

	"loop.example/g00729/impl"
)

// faultyOps is ops with a fault, and the code of each.
func faultyOps() map[impl.Op]int64 {
	return map[impl.Op]int64{
		{}:                                    impl.ErrForm,
		{Kind: 9}:                             impl.ErrForm,
		{Kind: -1, N: 3}:                      impl.ErrForm,
		{Kind: greatest}:                      impl.ErrForm,
		allocOf(0):                            impl.ErrRange,
		allocOf(65):                           impl.ErrRange,
		zeroOf(0):                             impl.ErrRange,
		zeroOf(greatest):                      impl.ErrRange,
		growAt(0, 0):                          impl.ErrRange,
		growAt(48, 65):                        impl.ErrRange,
		growAt(-1, least):                     impl.ErrRange,
		writeAt(48, 1<<30):                    impl.ErrRange,
		writeAt(-1, -1<<30):                   impl.ErrRange,
		{Kind: impl.OpFree, At: 48, N: 1}:     impl.ErrForm,
		{Kind: impl.OpRead, At: 48, Value: 1}: impl.ErrForm,
		{Kind: impl.OpSize, At: 48, N: -1}:    impl.ErrForm,
		{Kind: impl.OpStats, At: 1}:           impl.ErrForm,
		{Kind: impl.OpAlloc, At: 1, N: 65}:    impl.ErrForm,
		{Kind: impl.OpGrow, At: -1, N: 65, Value: 1}: impl.ErrForm,
		{Kind: impl.OpWrite, At: 999, N: 1}:          impl.ErrForm,
	}
}

func TestP1DoHeapOfAHeapWithAFault(t *testing.T) {
	asked := 0
	for _, h := range anyHeaps() {
		code := wantedHeapFault(h)
		if code == impl.OK {
			continue
		}
		asked++
		for _, cpu := range []int64{0, 1, -1, 2, greatest, least} {
			for _, o := range append(rightOps(), impl.Op{}, allocOf(65), statsOp()) {
				checkNoHeap(t, "a heap with a fault", impl.DoHeap(h, cpu, o), code)
			}
		}
	}
	if asked < 20 {
		t.Error("just so many heaps had a fault:", asked)
	}
}

func TestP1DoHeapBoundsTheProcessor(t *testing.T) {
	for _, made := range []struct {
		h    impl.Heap
		cpus int64
	}{{heapOf(1), 1}, {heapOf(2), 2}, {heapOf(1, mixedPages()...), 1}, {mixedHeap(), 2}, {fullHeap(), 2}, {withMag(heapOf(1, slabOf(3, 0, 1)), 3, 8), 1}} {
		for cpu := range made.cpus {
			checkReply(t, "a processor", impl.DoHeap(made.h, cpu, statsOp()), wantedDone(made.h, cpu, statsOp()).Reply, made.h)
		}
		wrong := append(wrongNumbers(0, made.cpus-1), -1, made.cpus, made.cpus+1, 4*made.cpus, greatest/4, greatest/4+1, least/4, least/4-1)
		for _, cpu := range wrong {
			if cpu >= 0 && cpu < made.cpus {
				continue
			}
			for _, o := range append(rightOps(), impl.Op{}, allocOf(65), allocOf(1), freeAt(48)) {
				checkNoHeap(t, numbered("the processor", cpu), impl.DoHeap(made.h, cpu, o), impl.ErrRange)
			}
		}
	}
}

func TestP1DoHeapOfAnOpWithAFault(t *testing.T) {
	for o, code := range faultyOps() {
		checkOp(t, "an op with a fault", o, code)
		for _, h := range rightHeaps() {
			for cpu := range cpusOf(h) {
				checkRefused(t, "an op with a fault", h, cpu, o, code)
			}
		}
	}
}

// placesOfHeap is the places of a small heap, all of them, and of a greater one those where something begins or ends, and ones that are none.
func placesOfHeap(h impl.Heap) []int64 {
	list := []int64{-1, -16, least, greatest, int64(len(h.Words)), int64(len(h.Words)) + 1}
	blocks := holdingsOf(h.Pages)
	for at, held := range blocks {
		isEdge := at == 0 || at == len(blocks)-1 || held.start == int64(at) || blocks[at-1].start == int64(at-1) || blocks[at+1] != held
		if len(blocks) < 150 || isEdge && at%7 < 4 {
			list = append(list, int64(at))
		}
	}
	return list
}

// opsFor is ops of all kinds for a heap: of all sizes, and of its places.
func opsFor(h impl.Heap) []impl.Op {
	list := []impl.Op{statsOp()}
	for n := int64(0); n <= impl.MaxSize+1; n++ {
		list = append(list, allocOf(n), zeroOf(n))
	}
	for i, at := range placesOfHeap(h) {
		list = append(list, freeAt(at), readAt(at), writeAt(at, int64(i)-impl.MaxValue), sizeAt(at))
		for _, n := range []int64{1, 2, 3, 5, 9, 17, 33, 49, 64} {
			list = append(list, growAt(at, n))
		}
	}
	return list
}

func TestP7EachOpOnRightHeaps(t *testing.T) {
	codes := map[int64]int{}
	for _, h := range rightHeaps() {
		for _, o := range opsFor(h) {
			for cpu := range cpusOf(h) {
				codes[checkDone(t, "an op", h, cpu, o).Reply.Code]++
			}
		}
	}
	for _, code := range []int64{impl.OK, impl.ErrForm, impl.ErrRange, impl.ErrNone, impl.ErrQuota} {
		if codes[code] < 500 {
			t.Error("too few replies of one code:", codes)
		}
	}
}

func TestP7WhereThereIsACodeNothingIsTurned(t *testing.T) {
	for _, h := range []impl.Heap{mixedHeap(), fullHeap(), heapOf(2), heapOf(1, freePages(2)...), withMag(heapOf(1, slabOf(3, 0, 1)), 3, 8)} {
		for _, o := range slices.Concat(opsFor(h), []impl.Op{{}, {Kind: 9}, writeAt(0, 1<<40)}) {
			for cpu := range cpusOf(h) {
				got := impl.DoHeap(h, cpu, o)
				if got.Reply.Code != impl.OK && (got.Reply.Value != 0 || !equalHeaps(got.Heap, h)) {
					t.Errorf("the op %v: %v, the heap was %v", o, got, h)
				}
			}
		}
	}
}
