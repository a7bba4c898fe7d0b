package tests

import (
	"reflect"
	"slices"
	"testing"

	"loop.example/g00729/impl"
)

// strangePage stands behind a list, where nothing may be changed.
func strangePage() impl.Page {
	return impl.Page{Kind: 77, Class: 78, Used: []bool{true, false, true}, Run: 79}
}

// behindUsed stands behind the slots of a page, where nothing may be changed.
func behindUsed() []bool {
	return []bool{true, false, false, true}
}

// roomyPages is a copy of list that has more memory behind it, and behind each Used.
func roomyPages(list []impl.Page) []impl.Page {
	whole := append(copyOf(list), strangePage())
	for i := range list {
		used := append(slices.Clone(list[i].Used), behindUsed()...)
		whole[i].Used = used[:len(list[i].Used)]
	}
	return whole[:len(list)]
}

// checkKeptPages wants the roomyPages of before as they were made, and the memory behind the lists, too.
func checkKeptPages(t *testing.T, name string, given, before []impl.Page) {
	t.Helper()
	if !equalPages(given, before) {
		t.Errorf("%s: an argument was changed:\nbefore %v\nbehind %v", name, before, given)
	}
	for i := range given {
		count := len(given[i].Used)
		if !slices.Equal(given[i].Used[count:count+4], behindUsed()) {
			t.Errorf("%s: memory behind the slots of the page %d was changed", name, i)
		}
	}
	if !reflect.DeepEqual(given[:len(given)+1][len(given)], strangePage()) {
		t.Errorf("%s: memory behind the pages was changed", name)
	}
}

// spoilUsed turns over all that the memory of a Used holds.
func spoilUsed(used []bool) {
	whole := used[:cap(used)]
	for i := range whole {
		whole[i] = !whole[i]
	}
}

// spoilPages overwrites all that the memory of list and of its pages holds.
func spoilPages(list []impl.Page) {
	whole := list[:cap(list)]
	for i := range whole {
		spoilUsed(whole[i].Used)
		whole[i] = strangePage()
	}
}

type pageCall struct {
	name string
	call func(list []impl.Page, at int64, n int64) impl.PagesResult
}

// asPages has a value in the place of an answer, so that all calls are held against one another alike.
func asPages(got impl.IntResult) impl.PagesResult {
	return impl.PagesResult{Code: got.Code, At: got.Value}
}

func pageCalls() []pageCall {
	return []pageCall{
		{"FindSlot", func(list []impl.Page, _, n int64) impl.PagesResult { return impl.FindSlot(list, n) }},
		{"FindRun", func(list []impl.Page, _, n int64) impl.PagesResult { return asPages(impl.FindRun(list, n)) }},
		{"TakeRun", impl.TakeRun},
		{"TakeRun where FindRun tells", func(list []impl.Page, _, n int64) impl.PagesResult {
			return impl.TakeRun(list, impl.FindRun(list, n).Value, n)
		}},
		{"DropBlock", func(list []impl.Page, at, _ int64) impl.PagesResult { return impl.DropBlock(list, at) }},
		{"BlockStart", func(list []impl.Page, at, _ int64) impl.PagesResult { return asPages(impl.BlockStart(list, at)) }},
		{"BlockSize", func(list []impl.Page, at, _ int64) impl.PagesResult { return asPages(impl.BlockSize(list, at)) }},
		{"UsedIn", func(list []impl.Page, _, _ int64) impl.PagesResult { return asPages(impl.UsedIn(list)) }},
		{"PagesFault", func(list []impl.Page, _, _ int64) impl.PagesResult {
			return impl.PagesResult{Code: impl.PagesFault(list)}
		}},
		{"PageFault", func(list []impl.Page, at, _ int64) impl.PagesResult {
			if at < 0 || at >= int64(len(list)) {
				return impl.PagesResult{}
			}
			return impl.PagesResult{Code: impl.PageFault(list[at])}
		}},
		{"SamePages", func(list []impl.Page, _, _ int64) impl.PagesResult {
			same := impl.SamePages(list, mixedPages()) && impl.SamePages(list, list)
			return impl.PagesResult{At: map[bool]int64{true: 1}[same]}
		}},
	}
}

// manyPages is right pages in which each call finds something to do, and pages of each fault.
func manyPages() [][]impl.Page {
	lists := [][]impl.Page{
		nil, mixedPages(), freePages(4), append(freePages(1), mixedPages()...), slices.Repeat([]impl.Page{slabOf(2, 0, 3)}, impl.MaxPages),
		slices.Concat(runOf(4), runOf(2), []impl.Page{slabOf(3, 1), slabOf(3, 0), slabOf(1, 4), slabWithout(0, 9)}),
		freePages(impl.MaxPages + 1), {restPage(), slabOf(1, 1)}, {slabOf(1, 1), runPage(3), restPage()},
	}
	for _, page := range faultyPages() {
		lists = append(lists, []impl.Page{slabOf(0, 2), page, slabWithout(3)})
	}
	return lists
}

// someNumbers is places, pages and numbers of pages at which the calls of manyPages have something to do, or nothing.
var someNumbers = []int64{0, 1, 2, 3, 4, 7, 15, 16, 19, 31, 32, 36, 48, 64, 96, 127, 128, 184, 192, 209, 320, 349, 639, 640, -1, 5, greatest, least}

// checkAnswer wants the answer that was told ahead.
func checkAnswer(t *testing.T, name string, got, wanted impl.PagesResult) {
	t.Helper()
	if got.Code != wanted.Code || got.At != wanted.At || !equalPages(got.Pages, wanted.Pages) {
		t.Errorf("%s:\ngot    %v\nwanted %v", name, got, wanted)
	}
}

// forEachCall asks each call of each list and of many numbers.
func forEachCall(do func(made pageCall, list []impl.Page, at, n int64)) {
	for _, made := range pageCalls() {
		for _, list := range manyPages() {
			for _, at := range someNumbers {
				for _, n := range []int64{0, 1, 2, 3, 4, 5, -1, greatest, least} {
					do(made, list, at, n)
				}
			}
		}
	}
}

func TestP1ThePagesStay(t *testing.T) {
	forEachCall(func(made pageCall, list []impl.Page, at, n int64) {
		given := roomyPages(list)
		made.call(given, at, n)
		checkKeptPages(t, made.name, given, list)
	})
	for _, list := range manyPages() {
		a, b := roomyPages(list), roomyPages(mixedPages())
		impl.SamePages(a, b)
		checkKeptPages(t, "SamePages, the first list", a, list)
		checkKeptPages(t, "SamePages, the second list", b, mixedPages())
	}
}

func TestP1TheAnsweredPagesAreNewMemory(t *testing.T) {
	answered := map[string]bool{}
	forEachCall(func(made pageCall, list []impl.Page, at, n int64) {
		given := roomyPages(list)
		first, second := made.call(given, at, n), made.call(given, at, n)
		if len(first.Pages) == 0 {
			return
		}
		answered[made.name] = true
		wanted := second
		wanted.Pages = copyOf(second.Pages)

		spoilPages(first.Pages)
		checkKeptPages(t, made.name+", its answer overwritten", given, list)
		checkAnswer(t, made.name+", the other answer overwritten", second, wanted)

		spoilPages(given)
		checkAnswer(t, made.name+", its arguments overwritten", second, wanted)
	})
	if len(answered) != 4 {
		t.Error("just these calls answered pages:", answered)
	}
}

func TestP1TheSlotsOfAnAnswerShareNothing(t *testing.T) {
	forEachCall(func(made pageCall, list []impl.Page, at, n int64) {
		got := made.call(list, at, n)
		for number := range got.Pages {
			wanted := copyOf(got.Pages)
			spoilUsed(got.Pages[number].Used)
			spoilUsed(wanted[number].Used[:len(wanted[number].Used):len(wanted[number].Used)])
			checkAnswer(t, made.name+", the slots of one page overwritten", impl.PagesResult{Pages: got.Pages}, impl.PagesResult{Pages: wanted})
		}
	})
}

func TestP1PagesThatShareTheirSlotsAreTakenApart(t *testing.T) {
	used := slabOf(3, 0).Used
	shared := impl.Page{Kind: impl.PageSlab, Class: 3, Used: used}
	got := impl.FindSlot([]impl.Page{shared, shared}, 3)
	checkPages(t, "one slot more", got, []impl.Page{slabWithout(3), slabOf(3, 0)}, 8)
	dropped := impl.DropBlock([]impl.Page{shared, shared}, 16)
	checkPages(t, "one slot fewer", dropped, []impl.Page{slabOf(3, 0), freePage()}, 16)
	full := slabWithout(2)
	checkPages(t, "one slot of four fewer", impl.DropBlock([]impl.Page{full, full}, 4), []impl.Page{slabWithout(2, 1), slabWithout(2)}, 4)
	if !slices.Equal(used, slabOf(3, 0).Used) || !slices.Equal(full.Used, slabWithout(2).Used) {
		t.Error("the shared slots were changed")
	}
}

func TestP1NothingOfThePagesIsKept(t *testing.T) {
	for _, made := range pageCalls() {
		for _, list := range manyPages() {
			for _, at := range []int64{0, 2, 16, 19, 128} {
				wanted := made.call(list, at, 2)
				for _, between := range pageCalls() {
					between.call(mixedPages(), 19, 3)
					between.call(freePages(3), at, 1)
					between.call([]impl.Page{restPage()}, 0, 1)
				}
				checkAnswer(t, made.name+", once more", made.call(list, at, 2), wanted)
			}
		}
	}
}

func TestP1NilAndEmptySlotsAreTheSame(t *testing.T) {
	forEachCall(func(made pageCall, list []impl.Page, at, n int64) {
		empty := make([]impl.Page, 0, len(list)+1)
		for _, page := range list {
			if len(page.Used) == 0 {
				page.Used = []bool{}
			}
			empty = append(empty, page)
		}
		checkAnswer(t, made.name+", empty lists", made.call(empty, at, n), made.call(list, at, n))
	})
}

func TestP1WithACodeAllElseIsZero(t *testing.T) {
	codes := map[int64]bool{}
	forEachCall(func(made pageCall, list []impl.Page, at, n int64) {
		got := made.call(list, at, n)
		codes[got.Code] = true
		if got.Code != impl.OK && (len(got.Pages) != 0 || got.At != 0) {
			t.Errorf("%s: %v", made.name, got)
		}
	})
	for _, code := range []int64{impl.OK, impl.ErrForm, impl.ErrMany, impl.ErrRange, impl.ErrNone, impl.ErrQuota, impl.ErrState} {
		if !codes[code] {
			t.Error("nothing told the code", code)
		}
	}
}
