package tests

import (
	"slices"
	"testing"

	"loop.example/g00729/impl"
)

func TestP7EachPlaceIsReadAndWritten(t *testing.T) {
	for _, h := range []impl.Heap{mixedHeap(), fullHeap(), heapOf(1, slices.Concat(runOf(4), []impl.Page{slabOf(3, 1), slabOf(0, 0, 15)})...)} {
		blocks := liveHoldings(h)
		for at := range int64(len(h.Words)) {
			for cpu := range cpusOf(h) {
				if blocks[at].size == 0 {
					checkRefused(t, "OpRead where nothing lives", h, cpu, readAt(at), impl.ErrNone)
					checkRefused(t, "OpWrite where nothing lives", h, cpu, writeAt(at, 5), impl.ErrNone)
					checkRefused(t, "OpWrite of nothing where nothing lives", h, cpu, writeAt(at, 0), impl.ErrNone)
					continue
				}
				checkReply(t, numbered("OpRead", at), impl.DoHeap(h, cpu, readAt(at)), impl.Reply{Value: h.Words[at]}, h)
				for _, value := range []int64{0, 5, impl.MaxValue, -impl.MaxValue} {
					after := withWordAt(h, int(at), value)
					checkReply(t, numbered("OpWrite", at), impl.DoHeap(h, cpu, writeAt(at, value)), impl.Reply{}, after)
					checkReply(t, numbered("OpRead of what was written", at), impl.DoHeap(after, cpu, readAt(at)), impl.Reply{Value: value}, after)
				}
			}
		}
	}
}

func TestP7NoOtherPlacesAreReadOrWritten(t *testing.T) {
	for _, h := range []impl.Heap{mixedHeap(), fullHeap(), heapOf(1), heapOf(2, freePages(3)...), heapOf(1, slices.Repeat(runOf(4), 10)...)} {
		count := int64(len(h.Words))
		for _, at := range append(farOutside(0, count), -1, -2, -16, count, count+1, count+16, greatest, least) {
			if at < 0 || at >= count {
				checkRefused(t, numbered("OpRead", at), h, 0, readAt(at), impl.ErrRange)
				checkRefused(t, numbered("OpWrite", at), h, 0, writeAt(at, 9), impl.ErrRange)
			}
		}
	}
}

func TestP7WordsByTheirNumbers(t *testing.T) {
	h := mixedHeap()
	for _, at := range []int64{34, 35, 47, 48, 63, 64, 95, 96, 99, 107, 111, 160, 175, 177, 191, 216, 223, 240, 255, 280, 288, 351} {
		checkTurned(t, numbered("OpRead", at), h, 0, readAt(at), h.Words[at], h)
		checkTurned(t, numbered("OpWrite", at), h, 1, writeAt(at, -12), 0, withWordAt(h, int(at), -12))
	}
	for _, at := range []int64{0, 15, 16, 18, 19, 31, 32, 33, 100, 103, 112, 119, 120, 127, 128, 181, 192, 207, 208, 215, 256, 272, 279} {
		checkRefused(t, numbered("OpRead", at), h, 0, readAt(at), impl.ErrNone)
		checkRefused(t, numbered("OpWrite", at), h, 1, writeAt(at, -12), impl.ErrNone)
	}
}

func TestP7TheSizeOfEachBlock(t *testing.T) {
	for _, h := range rightHeaps() {
		blocks := liveHoldings(h)
		for at := range int64(len(h.Words)) {
			wanted, code := blocks[at], int64(impl.OK)
			if wanted.size == 0 {
				code = impl.ErrNone
			} else if wanted.start != at {
				code = impl.ErrForm
			}
			got := impl.DoHeap(h, at%cpusOf(h), sizeAt(at))
			if code != impl.OK {
				wanted.size = 0
			}
			if got.Code != impl.OK || got.Reply != (impl.Reply{Code: code, Value: wanted.size}) {
				t.Errorf("OpSize %d: %v, wanted the code %d, the size %d", at, got.Reply, code, wanted.size)
			}
		}
	}
	h := mixedHeap()
	for _, made := range []struct{ at, size int64 }{{34, 2}, {46, 2}, {48, 48}, {96, 4}, {160, 16}, {176, 1}, {191, 1}, {216, 8}, {224, 32}, {280, 4}, {288, 64}} {
		checkTurned(t, numbered("OpSize", made.at), h, 0, sizeAt(made.at), made.size, h)
	}
}

func TestP7PagesThatAreNotFreeAreCounted(t *testing.T) {
	for count := range impl.MaxPages + 1 {
		list := freePages(impl.MaxPages)
		for number := range count {
			list[impl.MaxPages-1-number] = slabOf(number%4, number%2)
		}
		h := heapOf(2, list...)
		checkTurned(t, "OpStats", h, 1, statsOp(), int64(count), h)
	}
	for _, made := range []struct {
		h    impl.Heap
		used int64
	}{{heapOf(1), 0}, {heapOf(2, freePages(7)...), 0}, {heapOf(1, runOf(4)...), 4}, {mixedHeap(), 18}, {fullHeap(), 7}, {keptOfAll(), 8}} {
		checkTurned(t, "OpStats", made.h, 0, statsOp(), made.used, made.h)
	}
}
