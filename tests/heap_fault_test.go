package tests

import (
	"slices"
	"testing"

	"loop.example/g00729/impl"
)

func TestP1HeapFaultIsThatOfThePages(t *testing.T) {
	for _, page := range faultyPages() {
		for _, list := range [][]impl.Page{{page}, {freePage(), page, slabOf(1, 2)}, append(mixedPages(), page)} {
			checkFaultyHeap(t, "a page with a fault", heapOf(1, list...), wantedPageFault(page))
		}
	}
	for _, list := range [][]impl.Page{{restPage()}, {runPage(2)}, {runPage(3), restPage(), freePage()}, append(mixedPages(), restPage())} {
		checkFaultyHeap(t, "a run that is not whole", heapOf(2, list...), impl.ErrState)
	}
	for _, count := range []int{impl.MaxPages + 1, impl.MaxPages + 2, 1000} {
		checkFaultyHeap(t, "too many pages", heapOf(1, freePages(count)...), impl.ErrMany)
	}
	checkRightHeap(t, "as many pages as there may be", heapOf(1, freePages(impl.MaxPages)...))
}

func TestP1HeapFaultCountsTheWords(t *testing.T) {
	for _, list := range [][]impl.Page{nil, freePages(1), mixedPages(), freePages(impl.MaxPages)} {
		right := 16 * len(list)
		for _, count := range []int{0, 1, right - 16, right - 1, right, right + 1, right + 16, 2 * right, 16, 640, 656} {
			h := heapOf(1, list...)
			h.Words = make([]int64, max(count, 0))
			if count == right {
				checkRightHeap(t, "as many words as there have to be", h)
			} else if count >= 0 {
				checkFaultyHeap(t, numbered("so many words:", int64(count)), h, impl.ErrMany)
			}
		}
	}
}

func TestP1HeapFaultCountsTheMagazines(t *testing.T) {
	for _, list := range [][]impl.Page{nil, freePages(2), mixedPages()} {
		for count := range 20 {
			h := heapOf(1, list...)
			h.Mags = make([][]int64, count)
			if count == 4 || count == 8 {
				checkRightHeap(t, numbered("so many magazines:", int64(count)), h)
			} else {
				checkFaultyHeap(t, numbered("so many magazines:", int64(count)), h, impl.ErrMany)
			}
		}
	}
	checkFaultyHeap(t, "the zero value", impl.Heap{}, impl.ErrMany)
	checkFaultyHeap(t, "no magazines, and an empty list of them", impl.Heap{Mags: [][]int64{}}, impl.ErrMany)
	checkFaultyHeap(t, "very many magazines", impl.Heap{Mags: make([][]int64, 10000)}, impl.ErrMany)
}

func TestP1HeapFaultBoundsEachWord(t *testing.T) {
	h := mixedHeap()
	for at := range h.Words {
		for _, word := range []int64{impl.MaxValue + 1, -impl.MaxValue - 1, greatest, least} {
			changed := withWordAt(h, at, word)
			if got := impl.HeapFault(changed); got != impl.ErrRange {
				t.Errorf("the word %d at %d: fault %d", word, at, got)
			}
		}
		if h.Pages[at/16].Kind != impl.PageFree {
			checkRightHeap(t, "the greatest word", withWordAt(h, at, impl.MaxValue))
			checkRightHeap(t, "the least word", withWordAt(h, at, -impl.MaxValue))
		}
	}
	for _, word := range farOutside(-1, 1) {
		if word > impl.MaxValue || word < -impl.MaxValue {
			checkFaultyHeap(t, numbered("the word", word), withWordAt(h, 40, word), impl.ErrRange)
		}
	}
}

// TestP1HeapFaultCountsThePlaces has magazines of up to four blocks, each of which could be kept.
func TestP1HeapFaultCountsThePlaces(t *testing.T) {
	for class, slots := range slotCounts {
		h := heapOf(2, slices.Repeat([]impl.Page{slabWithout(class)}, 8)...)
		var places []int64
		for slot := range 8 {
			places = append(places, int64(16*(7-slot))+slotSizes[class]*int64(slot%slots))
		}
		for cpu := range impl.MaxCpus {
			number := 4*cpu + class
			for count := range len(places) + 1 {
				changed := withMag(h, number, places[:count]...)
				if count <= 2 {
					checkRightHeap(t, numbered("so many places:", int64(count)), changed)
				} else {
					checkFaultyHeap(t, numbered("so many places:", int64(count)), changed, impl.ErrMany)
				}
			}
			checkFaultyHeap(t, "very many places", withMag(h, number, make([]int64, 100000)...), impl.ErrMany)
		}
	}
}

// TestP1HeapFaultOfEachPlace keeps every place, in every magazine, and wants a fault where no slot of its class begins that is used.
func TestP1HeapFaultOfEachPlace(t *testing.T) {
	h := heapOf(2, mixedPages()...)
	for at, held := range holdingsOf(h.Pages) {
		for number := range h.Mags {
			wanted := int64(impl.ErrForm)
			if held.start == int64(at) && held.size == slotSizes[number%4] {
				wanted = impl.OK
			}
			if got := impl.HeapFault(withMag(h, number, int64(at))); got != wanted {
				t.Errorf("the place %d in the magazine %d: fault %d, wanted %d", at, number, got, wanted)
			}
		}
	}
}

func TestP1HeapFaultOfPlacesThatCannotBeKept(t *testing.T) {
	h := heapOf(2, mixedPages()...)
	cases := []struct {
		name   string
		number int
		at     int64
	}{
		{"a place ahead of all", 0, -1}, {"a page ahead of all", 3, -16}, {"the place behind the last one", 0, 352}, {"a page behind it", 7, 368},
		{"the greatest number", 0, greatest}, {"the least number", 4, least}, {"a free page", 0, 0}, {"a free page", 3, 128},
		{"a slot that is not used", 0, 18}, {"a slot that is not used", 3, 112}, {"a slot that is not used", 2, 100},
		{"inside of a block", 1, 33}, {"inside of a block", 2, 98}, {"inside of a block", 3, 121}, {"inside of a block", 7, 127},
		{"where a run begins", 0, 48}, {"where a run begins", 3, 48}, {"where a run of one page begins", 4, 160}, {"where a run of four begins", 0, 288},
		{"inside of a run", 0, 49}, {"a page of a run that goes on", 0, 64}, {"a page of a run that goes on", 4, 240}, {"the last word of a run", 0, 351},
		{"a page of a class that is greater", 0, 32}, {"a page of a class that is less", 1, 176}, {"a page of the class 3", 2, 120}, {"a page of the class 0", 3, 176},
	}
	for _, made := range cases {
		checkFaultyHeap(t, made.name, withMag(h, made.number, made.at), impl.ErrForm)
	}
	right := [][]int64{{176, 177}, {34, 36}, {96, 104}, {120, 216}, {178, 179}, {38, 40}, {276, 280}, {208}}
	kept := copyHeap(h)
	kept.Mags = right
	checkRightHeap(t, "all of these can be kept", kept)
	for _, made := range cases {
		checkFaultyHeap(t, made.name+", the newest one of two", withMag(kept, made.number, right[made.number][0], made.at), impl.ErrForm)
		checkFaultyHeap(t, made.name+", the oldest one of two", withMag(kept, made.number, made.at, right[made.number][0]), impl.ErrForm)
	}
}

func TestP1HeapFaultOfPlacesFarAway(t *testing.T) {
	h := heapOf(1, slices.Repeat([]impl.Page{slabWithout(0)}, impl.MaxPages)...)
	for _, at := range append(farOutside(0, 640), outside(0, 639)...) {
		if at < 0 || at > 639 {
			if got := impl.HeapFault(withMag(h, 0, at)); got != impl.ErrForm {
				t.Errorf("the place %d: fault %d", at, got)
			}
		}
	}
}

func TestP1HeapFaultOfAPlaceThatIsKeptTwice(t *testing.T) {
	for class := range slotCounts {
		h := heapOf(2, freePage(), slabWithout(class), slabOf(class, 0))
		first, second := int64(16), int64(32)
		checkFaultyHeap(t, "twice in one magazine", withMag(h, class, first, first), impl.ErrTaken)
		checkFaultyHeap(t, "twice in one magazine of the processor 1", withMag(h, 4+class, second, second), impl.ErrTaken)
		one, two := withMag(h, class, first), withMag(h, class, first, second)
		checkFaultyHeap(t, "once in two magazines", withMag(one, 4+class, first), impl.ErrTaken)
		checkFaultyHeap(t, "the oldest one and the newest one", withMag(two, 4+class, 16+slotSizes[class], first), impl.ErrTaken)
		checkFaultyHeap(t, "the newest one and the oldest one", withMag(two, 4+class, second, 16+slotSizes[class]), impl.ErrTaken)
		checkRightHeap(t, "another one", withMag(one, 4+class, second))
		checkRightHeap(t, "two in one magazine", two)
		checkRightHeap(t, "two in one magazine, in another order", withMag(h, class, second, first))
	}
}

func TestP1HeapFaultOfWordsOfFreePages(t *testing.T) {
	h := heapOf(1, mixedPages()...)
	for at := range h.Words {
		for _, word := range []int64{1, -1, impl.MaxValue, -impl.MaxValue, 1 << 8} {
			wanted := int64(impl.OK)
			if h.Pages[at/16].Kind == impl.PageFree {
				wanted = impl.ErrState
			}
			if got := impl.HeapFault(withWordAt(h, at, word)); got != wanted {
				t.Errorf("the word %d at %d: fault %d, wanted %d", word, at, got, wanted)
			}
		}
	}
	for _, at := range []int{0, 15, 128, 159, 256, 271} {
		checkFaultyHeap(t, "a word of a free page", withWordAt(mixedHeap(), at, -7), impl.ErrState)
	}
}

func TestP1AHeapWithoutPages(t *testing.T) {
	for cpus := 1; cpus <= impl.MaxCpus; cpus++ {
		h := heapOf(cpus)
		checkRightHeap(t, "no pages", h)
		checkRightHeap(t, "no pages, and empty lists", impl.Heap{Pages: []impl.Page{}, Words: []int64{}, Mags: slices.Repeat([][]int64{{}}, 4*cpus)})
		for number := range h.Mags {
			for _, at := range []int64{0, -1, 15, 16, greatest, least} {
				checkFaultyHeap(t, "a place that is kept", withMag(h, number, at), impl.ErrForm)
			}
			checkFaultyHeap(t, "places that are kept", withMag(h, number, 0, 0, 0), impl.ErrMany)
		}
	}
}

type heapFlaw struct {
	name string
	code int64
	lay  func(h *impl.Heap)
}

// heapFlaws is faults that can be laid in mixedHeap one beside the other, in the order in which they are asked.
func heapFlaws() []heapFlaw {
	return []heapFlaw{
		{"a page", impl.ErrNone, func(h *impl.Heap) { h.Pages[6].Used = make([]bool, 4) }},
		{"the runs", impl.ErrState, func(h *impl.Heap) { h.Pages[15] = freePage() }},
		{"how many words", impl.ErrMany, func(h *impl.Heap) { h.Words = append(h.Words, 0) }},
		{"how many magazines", impl.ErrMany, func(h *impl.Heap) { h.Mags = append(h.Mags, nil) }},
		{"a word", impl.ErrRange, func(h *impl.Heap) { h.Words[340] = impl.MaxValue + 1 }},
		{"how many places the magazine 1 has", impl.ErrMany, func(h *impl.Heap) { h.Mags[1] = []int64{32, 34, 36} }},
		{"the newest place of the magazine 2", impl.ErrForm, func(h *impl.Heap) { h.Mags[2] = []int64{96, 100} }},
		{"how many places the magazine 4 has", impl.ErrMany, func(h *impl.Heap) { h.Mags[4] = make([]int64, 3) }},
		{"the oldest place of the magazine 6", impl.ErrForm, func(h *impl.Heap) { h.Mags[6] = []int64{288, 276} }},
		{"how many places the magazine 7 has", impl.ErrMany, func(h *impl.Heap) { h.Mags[7] = []int64{208, 208, 208} }},
		{"two places", impl.ErrTaken, func(h *impl.Heap) { h.Mags[0] = []int64{31, 31} }},
		{"a word of a free page", impl.ErrState, func(h *impl.Heap) { h.Words[3] = 1 }},
	}
}

func TestP1WhichCodeOfAHeapComesFirst(t *testing.T) {
	flaws := heapFlaws()
	for i, first := range flaws {
		h := mixedHeap()
		first.lay(&h)
		checkFaultyHeap(t, first.name, h, first.code)
		for _, second := range flaws[i+1:] {
			h := mixedHeap()
			second.lay(&h)
			first.lay(&h)
			checkFaultyHeap(t, first.name+", ahead of "+second.name, h, first.code)
		}
		h = mixedHeap()
		for _, behind := range flaws[i:] {
			behind.lay(&h)
		}
		checkFaultyHeap(t, first.name+", ahead of all that is behind it", h, first.code)
	}
}

// wantedHeapFault goes through the codes as the chapter tells them, apart from the program.
func wantedHeapFault(h impl.Heap) int64 {
	if code := impl.PagesFault(h.Pages); code != impl.OK {
		return code
	}
	if len(h.Words) != 16*len(h.Pages) || len(h.Mags) != 4 && len(h.Mags) != 8 {
		return impl.ErrMany
	}
	if slices.ContainsFunc(h.Words, func(word int64) bool { return word < -1000000000 || word > 1000000000 }) {
		return impl.ErrRange
	}
	blocks, times := holdingsOf(h.Pages), map[int64]int{}
	for number, mag := range h.Mags {
		if len(mag) > 2 {
			return impl.ErrMany
		}
		for _, at := range mag {
			times[at]++
			if at < 0 || at >= int64(len(blocks)) || blocks[at] != (holding{start: at, size: slotSizes[number%4]}) {
				return impl.ErrForm
			}
		}
	}
	for _, count := range times {
		if count > 1 {
			return impl.ErrTaken
		}
	}
	for at, word := range h.Words {
		if word != 0 && h.Pages[at/16].Kind == impl.PageFree {
			return impl.ErrState
		}
	}
	return impl.OK
}

// spoilt changes a heap a little, so that it may have a fault, or several.
func (w heapWalker) spoilt(h impl.Heap) impl.Heap {
	for range 1 + w.next(3) {
		mag := &h.Mags[w.next(len(h.Mags))]
		places := slices.Concat(keptPlaces(h), liveStarts(h), []int64{0, -1, 16, int64(len(h.Words)), greatest, least})
		place := places[w.next(len(places))]
		switch w.next(9) {
		case 0:
			*mag = append(*mag, place)
		case 1:
			*mag = append(*mag, (*mag)[:min(1, len(*mag))]...)
		case 2, 3:
			*mag = []int64{place}
		case 4:
			*mag = []int64{place, places[w.next(len(places))]}
		case 5:
			h.Words[w.next(len(h.Words))] = []int64{1, -1, impl.MaxValue + 1, greatest, least, -impl.MaxValue, -impl.MaxValue - 1}[w.next(7)]
		case 6:
			page := &h.Pages[w.next(len(h.Pages))]
			*page = w.unit(1)[0]
		case 7:
			h.Words[w.next(len(h.Words))] = int64(w.next(3))
		case 8:
			if w.next(4) == 0 {
				h.Mags = append(h.Mags, nil)
			}
		}
	}
	return h
}

func TestP1HeapFaultOfManyHeaps(t *testing.T) {
	codes := map[int64]int{}
	for number := range uint32(4000) {
		w := newHeapWalker(1+int(number%9), number)
		h := w.spoilt(w.heap(1 + int(number%impl.MaxCpus)))
		wanted := wantedHeapFault(h)
		if got := impl.HeapFault(h); got != wanted {
			t.Fatalf("fault %d, wanted %d, of %v", got, wanted, h)
		}
		codes[wanted]++
	}
	for _, code := range []int64{impl.OK, impl.ErrMany, impl.ErrRange, impl.ErrForm, impl.ErrTaken, impl.ErrState} {
		if codes[code] < 40 {
			t.Error("too few heaps of one code:", codes)
		}
	}
}
