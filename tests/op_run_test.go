package tests

import (
	"slices"
	"testing"

	"loop.example/g00729/impl"
)

func requestOf(cpu int64, o impl.Op) impl.Request {
	return impl.Request{Cpu: cpu, Op: o}
}

// wantedRunHeap does the requests one behind the other, apart from the program.
func wantedRunHeap(h impl.Heap, list []impl.Request) (impl.Heap, []impl.Reply) {
	var replies []impl.Reply
	for _, asked := range list {
		done := wantedDone(h, asked.Cpu, asked.Op)
		h, replies = done.Heap, append(replies, done.Reply)
	}
	return h, replies
}

// checkRun wants OK, these replies, and this heap.
func checkRun(t *testing.T, name string, got impl.RunResult, replies []impl.Reply, h impl.Heap) {
	t.Helper()
	if got.Code != impl.OK || !slices.Equal(got.Replies, replies) {
		t.Errorf("%s: code %d, replies\n%v, wanted\n%v", name, got.Code, got.Replies, replies)
	}
	checkHeap(t, name, impl.HeapResult{Heap: got.Heap}, h)
}

// checkNoRun wants this code and nothing beside it.
func checkNoRun(t *testing.T, name string, got impl.RunResult, code int64) {
	t.Helper()
	if got.Code != code || len(got.Replies) != 0 || len(got.Heap.Pages)+len(got.Heap.Words)+len(got.Heap.Mags) != 0 {
		t.Errorf("%s: %v, wanted the code %d alone", name, got, code)
	}
}

// checkRequests wants what is worked out apart from the program, and what DoHeap tells one behind the other.
func checkRequests(t *testing.T, name string, h impl.Heap, list []impl.Request) {
	t.Helper()
	wanted, replies := wantedRunHeap(h, list)
	got := impl.RunHeap(h, list)
	checkRun(t, name, got, replies, wanted)
	last := impl.HeapResult{Heap: h}
	for i, asked := range list {
		last = impl.DoHeap(last.Heap, asked.Cpu, asked.Op)
		if last.Code != impl.OK || last.Reply != got.Replies[i] {
			t.Fatalf("%s, the request %d: %v, and %v of RunHeap", name, i, last.Reply, got.Replies[i])
		}
	}
	checkRun(t, name, got, replies, last.Heap)
}

func TestP7NoRequests(t *testing.T) {
	for _, h := range rightHeaps() {
		checkRun(t, "nil", impl.RunHeap(h, nil), nil, h)
		checkRun(t, "an empty list", impl.RunHeap(h, []impl.Request{}), nil, h)
	}
}

func TestP7OneRequest(t *testing.T) {
	for _, h := range []impl.Heap{mixedHeap(), fullHeap(), heapOf(1, freePages(2)...), heapOf(2)} {
		for _, o := range append(opsFor(h), impl.Op{}, impl.Op{Kind: 9, At: 3}) {
			for cpu := range cpusOf(h) {
				checkRequests(t, "one request", h, []impl.Request{requestOf(cpu, o)})
			}
		}
	}
}

// someRequests gives so many requests, of which some have a code.
func someRequests(w *walker, count int, cpus int) []impl.Request {
	var list []impl.Request
	places := []int64{0, 1, 2, 8, 16, 16, 17, 20, 24, 32, 32, 40, 48, 64, 80, 96, -1, 640}
	sizes := []int64{1, 1, 2, 3, 4, 5, 8, 8, 9, 16, 17, 33, 64, 65, 0}
	for range count {
		at, n := places[w.next(len(places))], sizes[w.next(len(sizes))]
		ops := []impl.Op{allocOf(n), zeroOf(n), allocOf(1 + n%8), freeAt(at), freeAt(at), growAt(at, n), readAt(at), writeAt(at, n-at), sizeAt(at), statsOp(), {Kind: n}}
		list = append(list, requestOf(int64(w.next(cpus)), ops[w.next(len(ops))]))
	}
	return list
}

func TestP7AsManyRequestsAsThereMayBe(t *testing.T) {
	for _, count := range []int{2, 3, 150, 299, 300} {
		for number := range uint32(4) {
			h := newHeapWalker(1+int(number)*3, number).heap(2)
			checkRequests(t, numbered("so many requests:", int64(count)), h, someRequests(newWalker(1, number), count, 2))
		}
	}
}

func TestP1TooManyRequests(t *testing.T) {
	for _, count := range []int{301, 302, 600, 100000} {
		for _, o := range []impl.Op{statsOp(), {}, allocOf(1)} {
			for _, cpu := range []int64{0, 1, 2, -1} {
				list := slices.Repeat([]impl.Request{requestOf(cpu, o)}, count)
				checkNoRun(t, numbered("so many requests:", int64(count)), impl.RunHeap(heapOf(2, freePages(3)...), list), impl.ErrMany)
				checkNoRun(t, "too many requests, and a heap with a fault", impl.RunHeap(heapOf(2, restPage()), list), impl.ErrState)
			}
		}
	}
}

func TestP1RunHeapOfAHeapWithAFault(t *testing.T) {
	for _, h := range anyHeaps() {
		code := wantedHeapFault(h)
		if code == impl.OK {
			continue
		}
		for _, count := range []int{0, 1, 2, 300, 301} {
			for _, cpu := range []int64{0, 1, -1, greatest} {
				checkNoRun(t, "a heap with a fault", impl.RunHeap(h, slices.Repeat([]impl.Request{requestOf(cpu, statsOp())}, count)), code)
			}
		}
	}
}

func TestP7RequestsGoOnBehindACode(t *testing.T) {
	h := heapOf(1, freePages(2)...)
	list := []impl.Request{
		requestOf(0, allocOf(8)), requestOf(0, freeAt(4)), requestOf(0, allocOf(65)), requestOf(0, writeAt(7, 44)), requestOf(0, impl.Op{Kind: 12}),
		requestOf(0, allocOf(17)), requestOf(0, readAt(7)), requestOf(0, readAt(8)), requestOf(0, sizeAt(0)), requestOf(0, readAt(32)),
	}
	replies := []impl.Reply{
		{}, {Code: impl.ErrForm}, {Code: impl.ErrRange}, {}, {Code: impl.ErrForm},
		{Code: impl.ErrQuota}, {Value: 44}, {Code: impl.ErrNone}, {Value: 8}, {Code: impl.ErrRange},
	}
	wanted := withWordAt(withPage(h, 0, slabOf(3, 0)), 7, 44)
	checkRun(t, "codes between", impl.RunHeap(h, list), replies, wanted)
	for i := range list {
		got := impl.RunHeap(h, list[:i+1])
		if !slices.Equal(got.Replies, replies[:i+1]) {
			t.Errorf("the first %d requests: %v", i+1, got.Replies)
		}
		if replies[i].Code != impl.OK && !equalHeaps(got.Heap, impl.RunHeap(h, list[:i]).Heap) {
			t.Errorf("the request %d has a code, and turned the heap", i)
		}
	}
	checkRequests(t, "codes between", h, list)
}

func TestP7RequestsOfBothProcessors(t *testing.T) {
	h := heapOf(2, freePages(3)...)
	list := []impl.Request{
		requestOf(0, allocOf(4)), requestOf(1, allocOf(4)), requestOf(1, writeAt(0, 5)), requestOf(0, writeAt(4, 6)), requestOf(1, freeAt(0)), requestOf(0, freeAt(4)),
		requestOf(0, allocOf(3)), requestOf(0, allocOf(3)), requestOf(1, allocOf(3)), requestOf(0, readAt(4)), requestOf(1, readAt(0)), requestOf(0, readAt(8)),
		requestOf(1, freeAt(8)), requestOf(1, freeAt(4)), requestOf(1, freeAt(0)), requestOf(1, statsOp()), requestOf(0, allocOf(48)), requestOf(0, statsOp()),
	}
	replies := []impl.Reply{
		{Value: 0}, {Value: 4}, {}, {}, {}, {},
		{Value: 4}, {Value: 8}, {Value: 0}, {Value: 6}, {Value: 5}, {Value: 0},
		{}, {}, {}, {Value: 1}, {Value: 0}, {Value: 3},
	}
	wanted := heapOf(2, freePages(3)...)
	copy(wanted.Pages, runOf(3))
	checkRun(t, "both processors", impl.RunHeap(h, list), replies, wanted)
	checkRequests(t, "both processors", h, list)
}

func TestP1AProcessorThatIsNoneInTheMiddle(t *testing.T) {
	for _, cpus := range []int{1, 2} {
		h := heapOf(cpus, freePages(2)...)
		for _, wrong := range append(wrongNumbers(0, int64(cpus)-1), int64(cpus), -1) {
			if wrong >= 0 && wrong < int64(cpus) {
				continue
			}
			bad := requestOf(wrong, allocOf(1))
			for _, list := range [][]impl.Request{{bad}, {requestOf(0, allocOf(3)), bad, requestOf(0, freeAt(0))}, {requestOf(0, impl.Op{}), bad}, {requestOf(0, allocOf(3)), requestOf(wrong, impl.Op{})}} {
				checkNoRun(t, numbered("the processor", wrong), impl.RunHeap(h, list), impl.ErrRange)
			}
		}
		last := append(slices.Repeat([]impl.Request{requestOf(int64(cpus)-1, allocOf(1))}, 299), requestOf(int64(cpus), statsOp()))
		checkNoRun(t, "the last one of 300", impl.RunHeap(h, last), impl.ErrRange)
		checkRequests(t, "all but the last one", h, last[:299])
	}
}

func checkSameReplies(t *testing.T, name string, a, b []impl.Reply, wanted bool) {
	t.Helper()
	if impl.SameReplies(a, b) != wanted || impl.SameReplies(b, a) != wanted {
		t.Errorf("%s: %v and %v, wanted %v", name, a, b, wanted)
	}
}

func TestP1SameRepliesOfNilAndEmptyLists(t *testing.T) {
	empty := [][]impl.Reply{nil, {}, make([]impl.Reply, 0, 9), make([]impl.Reply, 3)[:0]}
	for _, a := range empty {
		for _, b := range empty {
			checkSameReplies(t, "no replies", a, b, true)
		}
		for _, b := range [][]impl.Reply{{{}}, {{Code: 1}}, {{}, {}}} {
			checkSameReplies(t, "no replies and some", a, b, false)
		}
	}
}

func TestP1SameRepliesLooksAtEachField(t *testing.T) {
	list := []impl.Reply{{}, {Value: 3}, {Code: 4}, {Value: -7}, {Code: 99, Value: greatest}, {Code: least, Value: 1}, {}}
	checkSameReplies(t, "a list and itself", list, list, true)
	checkSameReplies(t, "a list and its copy", list, slices.Clone(list), true)
	for i := range list {
		for _, away := range []int64{1, -1, 1 << 8, 1 << 32, -1 << 63} {
			code, value := slices.Clone(list), slices.Clone(list)
			code[i].Code += away
			value[i].Value += away
			checkSameReplies(t, "one code differs", list, code, false)
			checkSameReplies(t, "one value differs", list, value, false)
			checkSameReplies(t, "a code and a value differ", code, value, false)
		}
		checkSameReplies(t, "one reply fewer", list, slices.Delete(slices.Clone(list), i, i+1), false)
		checkSameReplies(t, "one reply more", list, slices.Insert(slices.Clone(list), i, impl.Reply{Code: 5}), false)
		checkSameReplies(t, "the first ones", list, list[:i], false)
		checkSameReplies(t, "the last ones", list, list[i+1:], false)
	}
	turned := slices.Clone(list)
	slices.Reverse(turned)
	checkSameReplies(t, "another order", list, turned, false)
	checkSameReplies(t, "two in another order", []impl.Reply{{Value: 1}, {Value: 2}}, []impl.Reply{{Value: 2}, {Value: 1}}, false)
	checkSameReplies(t, "a code that is another one's value", []impl.Reply{{Code: 1}}, []impl.Reply{{Value: 1}}, false)
	checkSameReplies(t, "very many replies", make([]impl.Reply, 5000), make([]impl.Reply, 5000), true)
	checkSameReplies(t, "one reply more at the end", make([]impl.Reply, 5000), make([]impl.Reply, 5001), false)
}
