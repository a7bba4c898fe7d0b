package tests

import (
	"slices"
	"testing"

	"loop.example/g00729/impl"
)

// wantedSlot gives the page and the slot that are taken next, or -1; each search goes over all pages anew, apart from the program.
func wantedSlot(list []impl.Page, class int) (int, int) {
	number := slices.IndexFunc(list, func(page impl.Page) bool {
		return page.Kind == impl.PageSlab && page.Class == int64(class) && slices.Contains(page.Used, false)
	})
	if number >= 0 {
		return number, slices.Index(list[number].Used, false)
	}
	return slices.IndexFunc(list, func(page impl.Page) bool { return page.Kind == impl.PageFree }), 0
}

// checkFindSlot wants the slot that wantedSlot tells, used, and all else as it is.
func checkFindSlot(t *testing.T, name string, list []impl.Page, class int) {
	t.Helper()
	got := impl.FindSlot(list, int64(class))
	number, slot := wantedSlot(list, class)
	if number < 0 {
		checkNoPages(t, name, got, impl.ErrQuota)
		return
	}
	pages := copyOf(list)
	if pages[number].Kind == impl.PageFree {
		pages[number] = slabOf(class)
	}
	pages[number].Used[slot] = true
	checkPages(t, name, got, pages, int64(impl.PageWords*number)+slotSizes[class]*int64(slot))
}

func TestP5FindSlotOfTheExample(t *testing.T) {
	got := impl.FindSlot([]impl.Page{freePage()}, 1)
	checkPages(t, "the class 1 where one page is free", got, []impl.Page{slabOf(1, 0)}, 0)
}

func TestP5FindSlotOfRightPages(t *testing.T) {
	for _, list := range rightLists(3) {
		for class := range slotCounts {
			checkFindSlot(t, numbered("FindSlot", int64(class)), list, class)
		}
		if t.Failed() {
			t.Fatalf("the pages are %v", list)
		}
	}
}

func TestP5FindSlotGoesToItsClassAheadOfAFreePage(t *testing.T) {
	for class, slots := range slotCounts {
		others := []impl.Page{freePage(), slabOf((class+1)%4, 0), slabWithout(class), freePage()}
		for slot := range slots {
			list := append(slices.Clone(others), slabWithout(class, slot), slabOf(class, 0), freePage())
			checkFindSlot(t, "behind a free page", list, class)
			got := impl.FindSlot(list, int64(class))
			if at := 4*impl.PageWords + slotSizes[class]*int64(slot); got.At != at || got.Pages[0].Kind != impl.PageFree || got.Pages[4].Kind != impl.PageSlab {
				t.Errorf("the slot %d of the class %d: %v", slot, class, got)
			}
		}
		far := append(freePages(impl.MaxPages-1), slabOf(class, slots-1))
		checkPages(t, "behind free pages alone", impl.FindSlot(far, int64(class)), append(freePages(impl.MaxPages-1), slabOf(class, 0, slots-1)), (impl.MaxPages-1)*impl.PageWords)
	}
}

func TestP5FindSlotTakesTheFirstFreePageWhereItsClassHasNone(t *testing.T) {
	for class := range slotCounts {
		full := []impl.Page{slabWithout(class), slabOf((class+1)%4, 0), slabOf((class+2)%4, 0), slabOf((class+3)%4, 0)}
		full = append(full, runOf(2)...)
		wanted := append(slices.Clone(full), slabOf(class, 0), slabWithout(class), freePage())
		got := impl.FindSlot(append(slices.Clone(full), freePage(), slabWithout(class), freePage()), int64(class))
		checkPages(t, numbered("the first free page of two, the class", int64(class)), got, wanted, 6*impl.PageWords)

		last := append(slices.Repeat([]impl.Page{slabWithout(class)}, impl.MaxPages-1), freePage())
		got = impl.FindSlot(last, int64(class))
		checkPages(t, "the last page of all", got, append(slices.Repeat([]impl.Page{slabWithout(class)}, impl.MaxPages-1), slabOf(class, 0)), (impl.MaxPages-1)*impl.PageWords)

		checkNoPages(t, numbered("none of both, the class", int64(class)), impl.FindSlot(full, int64(class)), impl.ErrQuota)
		checkNoPages(t, "no pages", impl.FindSlot(nil, int64(class)), impl.ErrQuota)
		checkNoPages(t, "all pages full", impl.FindSlot(slices.Repeat([]impl.Page{slabWithout(class)}, impl.MaxPages), int64(class)), impl.ErrQuota)
	}
}

func TestP5SlotsAreTakenOneBehindTheOther(t *testing.T) {
	for class, slots := range slotCounts {
		list := []impl.Page{slabWithout((class + 1) % 4), freePage(), runPage(1), freePage()}
		for i := range 2 * slots {
			got := impl.FindSlot(list, int64(class))
			page := []int64{1, 3}[i/slots]
			if wanted := page*impl.PageWords + slotSizes[class]*int64(i%slots); got.Code != impl.OK || got.At != wanted {
				t.Fatalf("the class %d, the slot %d: %v, wanted the place %d", class, i, got, wanted)
			}
			list = got.Pages
		}
		checkPages(t, "all slots", impl.PagesResult{Pages: list}, []impl.Page{slabWithout((class + 1) % 4), slabWithout(class), runPage(1), slabWithout(class)}, 0)
		checkNoPages(t, "one more slot", impl.FindSlot(list, int64(class)), impl.ErrQuota)
	}
}

func TestP1ClassesThatAreNone(t *testing.T) {
	for _, list := range [][]impl.Page{nil, freePages(1), freePages(impl.MaxPages), {slabWithout(0)}, {slabOf(3, 1)}, mixedPages()} {
		for _, class := range append(outside(0, impl.MaxClass), farOutside(0, impl.MaxClass)...) {
			checkNoPages(t, numbered("FindSlot", class), impl.FindSlot(list, class), impl.ErrRange)
		}
	}
}

// masked is pages of which those in mask are free; all others are of blocks or runs of one, by turns.
func masked(count, mask int) []impl.Page {
	var list []impl.Page
	for number := range count {
		page := []impl.Page{slabOf(0, 7), runPage(1), slabWithout(3)}[number%3]
		if mask>>number&1 == 1 {
			page = freePage()
		}
		list = append(list, page)
	}
	return list
}

// wantedRun slides so many ones over the mask, apart from the program.
func wantedRun(count, mask int, n int64) int64 {
	ones := 1<<n - 1
	for at := range count {
		if at+int(n) <= count && mask>>at&ones == ones {
			return int64(at)
		}
	}
	return -1
}

func TestP5FindRunIsTheFirstOne(t *testing.T) {
	for count := range 11 {
		for mask := range 1 << count {
			for n := int64(1); n <= impl.MaxRun; n++ {
				list, name := masked(count, mask), numbered("FindRun", n)
				wanted := wantedRun(count, mask, n)
				if wanted < 0 {
					checkNoValue(t, name, impl.FindRun(list, n), impl.ErrQuota)
				} else {
					checkValue(t, name, impl.FindRun(list, n), wanted)
				}
				if t.Failed() {
					t.Fatalf("the pages are %v", list)
				}
			}
		}
	}
}

func TestP5FindRunAtTheEdgesOfTheList(t *testing.T) {
	for n := int64(1); n <= impl.MaxRun; n++ {
		enough, few := freePages(int(n)), freePages(int(n)-1)
		taken := slices.Repeat([]impl.Page{slabWithout(2)}, impl.MaxPages-int(n))
		short := slices.Repeat(append(few, runOf(2)...), 3)
		checkValue(t, "at the beginning", impl.FindRun(slices.Concat(enough, taken), n), 0)
		checkValue(t, "all pages are free", impl.FindRun(freePages(impl.MaxPages), n), 0)
		checkValue(t, "just so many pages", impl.FindRun(enough, n), 0)
		checkValue(t, "at the end", impl.FindRun(slices.Concat(taken, enough), n), impl.MaxPages-n)
		checkValue(t, "in between", impl.FindRun(slices.Concat(short, enough, runOf(1), freePages(5)), n), int64(len(short)))
		checkNoValue(t, "just too few, at the end too", impl.FindRun(slices.Concat(short, few), n), impl.ErrQuota)
		checkNoValue(t, "just too few pages", impl.FindRun(few, n), impl.ErrQuota)
		checkNoValue(t, "no page is free", impl.FindRun(taken, n), impl.ErrQuota)
		checkNoValue(t, "no pages", impl.FindRun(nil, n), impl.ErrQuota)
	}
}

func TestP5FindRunIsFreeAndNoneAheadOfItIs(t *testing.T) {
	for _, list := range rightLists(3) {
		for n := int64(1); n <= impl.MaxRun; n++ {
			mask := 0
			for number, page := range list {
				if page.Kind == impl.PageFree {
					mask |= 1 << number
				}
			}
			got, wanted := impl.FindRun(list, n), wantedRun(len(list), mask, n)
			if wanted < 0 && got != (impl.IntResult{Code: impl.ErrQuota}) || wanted >= 0 && got != (impl.IntResult{Value: wanted}) {
				t.Fatalf("%d pages of %v: %v, wanted %d", n, list, got, wanted)
			}
		}
	}
}

func TestP1RunsOfSoManyPagesAreNone(t *testing.T) {
	for _, list := range [][]impl.Page{nil, freePages(1), freePages(impl.MaxPages), {slabWithout(0)}, mixedPages()} {
		for _, n := range append(outside(1, impl.MaxRun), farOutside(1, impl.MaxRun)...) {
			checkNoValue(t, numbered("FindRun", n), impl.FindRun(list, n), impl.ErrRange)
			for _, at := range []int64{0, 1, -1, int64(len(list)), impl.MaxPages, greatest, least, -n} {
				checkNoPages(t, numbered("TakeRun of", n), impl.TakeRun(list, at, n), impl.ErrRange)
			}
		}
	}
}

// checkTakeRun wants these pages as a run, and all else as it is; the codes are asked page by page, apart from the program.
func checkTakeRun(t *testing.T, list []impl.Page, at, n int64) {
	t.Helper()
	name := numbered(numbered("TakeRun at", at)+" of", n)
	got, pages := impl.TakeRun(list, at, n), copyOf(list)
	isFree := true
	for number := at; number < at+n; number++ {
		if number < 0 || number >= int64(len(list)) {
			checkNoPages(t, name, got, impl.ErrRange)
			return
		}
		isFree = isFree && list[number].Kind == impl.PageFree
		pages[number] = restPage()
	}
	if !isFree {
		checkNoPages(t, name, got, impl.ErrState)
		return
	}
	pages[at] = runPage(n)
	checkPages(t, name, got, pages, at*impl.PageWords)
}

func TestP5TakeRunOfManyPages(t *testing.T) {
	for count := range 8 {
		for mask := range 1 << count {
			list := masked(count, mask)
			for n := int64(1); n <= impl.MaxRun; n++ {
				for at := int64(-6); at <= int64(count)+5; at++ {
					checkTakeRun(t, list, at, n)
				}
			}
			if t.Failed() {
				t.Fatalf("the pages are %v", list)
			}
		}
	}
	list := mixedPages()
	for n := int64(1); n <= impl.MaxRun; n++ {
		for at := int64(-1); at <= int64(len(list)); at++ {
			checkTakeRun(t, list, at, n)
			checkTakeRun(t, append(freePages(5), list[:3]...), at, n)
		}
	}
}

func TestP5TakeRunAtTheEndOfTheList(t *testing.T) {
	for n := int64(1); n <= impl.MaxRun; n++ {
		for _, count := range []int64{n, n + 1, impl.MaxPages - 1, impl.MaxPages} {
			list := freePages(int(count))
			checkPages(t, numbered("the last pages, as many as", n), impl.TakeRun(list, count-n, n), slices.Concat(freePages(int(count-n)), runOf(n)), (count-n)*impl.PageWords)
			checkNoPages(t, numbered("one page too far", n), impl.TakeRun(list, count-n+1, n), impl.ErrRange)
			checkNoPages(t, numbered("from behind the last page on", n), impl.TakeRun(list, count, n), impl.ErrRange)
		}
	}
}

func TestP1TakeRunAtPagesThatAreNone(t *testing.T) {
	for _, list := range [][]impl.Page{nil, freePages(2), freePages(impl.MaxPages), slices.Repeat([]impl.Page{slabWithout(0)}, impl.MaxPages), mixedPages()} {
		for n := int64(1); n <= impl.MaxRun; n++ {
			count := int64(len(list))
			ats := append(farOutside(0, impl.MaxPages), greatest, greatest-1, greatest-n, greatest-n+1, least, least+1, -1, -n, count-n+1, count)
			for _, at := range ats {
				checkNoPages(t, numbered("TakeRun at", at), impl.TakeRun(list, at, n), impl.ErrRange)
			}
		}
	}
}

func TestP1TakeRunAsksTheBoundsAheadOfThePages(t *testing.T) {
	full := slices.Repeat([]impl.Page{slabWithout(1)}, 3)
	checkNoPages(t, "pages that are not free, one too far", impl.TakeRun(full, 2, 2), impl.ErrRange)
	checkNoPages(t, "pages that are not free, too many", impl.TakeRun(full, 0, 5), impl.ErrRange)
	checkNoPages(t, "pages that are not free, none of them", impl.TakeRun(full, 0, 0), impl.ErrRange)
	checkNoPages(t, "pages that are not free", impl.TakeRun(full, 1, 2), impl.ErrState)
	for n := int64(2); n <= impl.MaxRun; n++ {
		for within := range n {
			for _, unit := range allUnits()[1:] {
				list := slices.Concat(freePages(int(within)), unit, freePages(8))
				checkNoPages(t, "over pages of which one is not free", impl.TakeRun(list, 0, n), impl.ErrState)
			}
		}
	}
}

func TestP5WhatFindRunTellsIsTaken(t *testing.T) {
	for n := int64(1); n <= impl.MaxRun; n++ {
		list, wanted := freePages(impl.MaxPages), freePages(impl.MaxPages)
		for at := int64(0); at+n <= impl.MaxPages; at += n {
			found := impl.FindRun(list, n)
			checkValue(t, numbered("the next run of", n), found, at)
			copy(wanted[at:], runOf(n))
			got := impl.TakeRun(list, found.Value, n)
			checkPages(t, numbered("it is taken at", at), got, wanted, at*impl.PageWords)
			checkNoPages(t, "it is taken once more", impl.TakeRun(got.Pages, found.Value, n), impl.ErrState)
			list = got.Pages
		}
		checkNoValue(t, numbered("one run more of", n), impl.FindRun(list, n), impl.ErrQuota)
	}
}
