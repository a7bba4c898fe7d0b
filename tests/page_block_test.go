package tests

import (
	"slices"
	"testing"

	"loop.example/g00729/impl"
)

// checkPlace wants of one place the block that has it in it, or the code that there is none.
func checkPlace(t *testing.T, list []impl.Page, at int64, held holding) {
	t.Helper()
	start, size := impl.BlockStart(list, at), impl.BlockSize(list, at)
	if held.size == 0 {
		checkNoValue(t, numbered("BlockStart", at), start, impl.ErrNone)
		checkNoValue(t, numbered("BlockSize", at), size, impl.ErrNone)
		checkNoPages(t, numbered("DropBlock", at), impl.DropBlock(list, at), impl.ErrNone)
		return
	}
	checkValue(t, numbered("BlockStart", at), start, held.start)
	checkValue(t, numbered("BlockSize", at), size, held.size)
	if at != held.start {
		checkNoPages(t, numbered("DropBlock", at), impl.DropBlock(list, at), impl.ErrForm)
	}
}

// checkPlaces goes through all places of the pages, and just before and behind them.
func checkPlaces(t *testing.T, list []impl.Page) {
	t.Helper()
	all := holdingsOf(list)
	for at, held := range all {
		checkPlace(t, list, int64(at), held)
	}
	count := int64(len(all))
	for _, at := range append(outside(0, count-1), count+impl.PageWords, -impl.PageWords, -impl.PageWords-1) {
		checkNoValue(t, numbered("BlockStart", at), impl.BlockStart(list, at), impl.ErrRange)
		checkNoValue(t, numbered("BlockSize", at), impl.BlockSize(list, at), impl.ErrRange)
		checkNoPages(t, numbered("DropBlock", at), impl.DropBlock(list, at), impl.ErrRange)
	}
	if t.Failed() {
		t.Fatalf("the pages are %v", list)
	}
}

func TestP5EachPlaceOfRightPages(t *testing.T) {
	for _, list := range rightLists(2) {
		checkPlaces(t, list)
	}
	checkPlaces(t, []impl.Page{})
	checkPlaces(t, mixedPages())
	checkPlaces(t, freePages(impl.MaxPages))
	checkPlaces(t, slices.Repeat(runOf(4), impl.MaxPages/4))
	checkPlaces(t, slices.Repeat(runOf(1), impl.MaxPages))
	for class, slots := range slotCounts {
		checkPlaces(t, slices.Repeat([]impl.Page{slabOf(class, slots-1)}, impl.MaxPages))
		checkPlaces(t, append(freePages(impl.MaxPages-1), slabWithout(class)))
	}
}

func TestP5PlacesOfEachUsedSlot(t *testing.T) {
	for class, slots := range slotCounts {
		for mask := 1; mask < 1<<slots; mask += 1 + mask/97 {
			page := slabOf(class)
			for slot := range slots {
				page.Used[slot] = mask>>slot&1 == 1
			}
			checkPlaces(t, []impl.Page{freePage(), page, runPage(1)})
		}
	}
}

func TestP5PlacesByTheirNumbers(t *testing.T) {
	list := slices.Concat([]impl.Page{slabWithout(3), slabOf(1, 2)}, runOf(3), []impl.Page{slabWithout(0)})
	for _, made := range []struct{ at, start, size int64 }{
		{0, 0, 8}, {7, 0, 8}, {8, 8, 8}, {15, 8, 8}, {20, 20, 2}, {21, 20, 2}, {32, 32, 48}, {47, 32, 48}, {48, 32, 48}, {79, 32, 48}, {80, 80, 1}, {95, 95, 1},
	} {
		checkValue(t, numbered("BlockStart", made.at), impl.BlockStart(list, made.at), made.start)
		checkValue(t, numbered("BlockSize", made.at), impl.BlockSize(list, made.at), made.size)
	}
	for _, at := range []int64{16, 19, 22, 31} {
		checkNoValue(t, numbered("BlockStart", at), impl.BlockStart(list, at), impl.ErrNone)
	}
	for _, at := range []int64{-1, 96, greatest, least} {
		checkNoValue(t, numbered("BlockSize", at), impl.BlockSize(list, at), impl.ErrRange)
	}
}

func TestP1PlacesFarAway(t *testing.T) {
	for _, list := range [][]impl.Page{nil, freePages(1), slices.Repeat([]impl.Page{slabWithout(0)}, impl.MaxPages), mixedPages()} {
		for _, at := range farOutside(0, impl.MaxPages*impl.PageWords) {
			if at >= 0 && at < int64(len(list)*impl.PageWords) {
				continue
			}
			checkNoValue(t, numbered("BlockStart", at), impl.BlockStart(list, at), impl.ErrRange)
			checkNoValue(t, numbered("BlockSize", at), impl.BlockSize(list, at), impl.ErrRange)
			checkNoPages(t, numbered("DropBlock", at), impl.DropBlock(list, at), impl.ErrRange)
		}
	}
}

// withoutHeld takes a block out of copied pages, apart from the program: its slot is counted off word by word.
func withoutHeld(list []impl.Page, held holding) []impl.Page {
	pages := copyOf(list)
	number := int(held.start) / impl.PageWords
	page := &pages[number]
	if page.Kind == impl.PageRun {
		copy(pages[number:], freePages(int(held.size)/impl.PageWords))
		return pages
	}
	slot := 0
	for at := int64(number * impl.PageWords); at < held.start; at += held.size {
		slot++
	}
	page.Used[slot] = false
	if !slices.Contains(page.Used, true) {
		*page = freePage()
	}
	return pages
}

// checkDrops drops each block of the pages by itself.
func checkDrops(t *testing.T, list []impl.Page) {
	t.Helper()
	for at, held := range holdingsOf(list) {
		if held.size == 0 || held.start != int64(at) {
			continue
		}
		name := numbered("DropBlock", held.start)
		got := impl.DropBlock(list, held.start)
		checkPages(t, name, got, withoutHeld(list, held), held.start)
		for within := held.start; within < held.start+held.size; within++ {
			checkNoPages(t, numbered(name+", and then", within), impl.DropBlock(got.Pages, within), impl.ErrNone)
		}
		checkOtherPlaces(t, name, list, got.Pages, held)
	}
	if t.Failed() {
		t.Fatalf("the pages are %v", list)
	}
}

// checkOtherPlaces wants no place of the block held, and all others as they were.
func checkOtherPlaces(t *testing.T, name string, before, after []impl.Page, held holding) {
	t.Helper()
	wanted := holdingsOf(before)
	for at := held.start; at < held.start+held.size; at++ {
		wanted[at] = holding{}
	}
	if !slices.Equal(holdingsOf(after), wanted) {
		t.Errorf("%s: the other blocks are not as they were", name)
	}
}

func TestP5EachBlockOfRightPagesIsDropped(t *testing.T) {
	for _, list := range rightLists(2) {
		checkDrops(t, list)
	}
	checkDrops(t, mixedPages())
	checkDrops(t, slices.Repeat(runOf(4), impl.MaxPages/4))
	checkDrops(t, append(freePages(impl.MaxPages-1), runPage(1)))
	checkDrops(t, append(freePages(impl.MaxPages-1), slabOf(0, 15)))
}

func TestP5APageOfWhichNoSlotIsUsedIsFree(t *testing.T) {
	for class, slots := range slotCounts {
		for last := range slots {
			list := []impl.Page{slabWithout(class, last), slabWithout(class), runPage(1)}
			for slot := range slots {
				if slot == last {
					continue
				}
				list = impl.DropBlock(list, impl.PageWords+slotSizes[class]*int64(slot)).Pages
			}
			checkPages(t, "one slot is left", impl.PagesResult{Pages: list}, []impl.Page{slabWithout(class, last), slabOf(class, last), runPage(1)}, 0)
			at := impl.PageWords + slotSizes[class]*int64(last)
			got := impl.DropBlock(list, at)
			checkPages(t, "none is left", got, []impl.Page{slabWithout(class, last), freePage(), runPage(1)}, at)
			if got.Pages[1].Class != 0 || len(got.Pages[1].Used) != 0 || got.Pages[1].Run != 0 {
				t.Errorf("a free page has more than its kind: %v", got.Pages[1])
			}
			checkNoPages(t, "once more", impl.DropBlock(got.Pages, at), impl.ErrNone)
		}
	}
}

func TestP5AllPagesOfARunAreFree(t *testing.T) {
	for n := int64(1); n <= impl.MaxRun; n++ {
		for _, ahead := range []int{0, 1, impl.MaxPages - int(n)} {
			list := slices.Concat(slices.Repeat([]impl.Page{runPage(1)}, ahead), runOf(n))
			wanted := slices.Concat(slices.Repeat([]impl.Page{runPage(1)}, ahead), freePages(int(n)))
			at := int64(ahead * impl.PageWords)
			checkPages(t, numbered("a run at the end, of", n), impl.DropBlock(list, at), wanted, at)
			for within := at + 1; within < at+n*impl.PageWords; within++ {
				checkNoPages(t, numbered("within it", within), impl.DropBlock(list, within), impl.ErrForm)
			}
			checkNoPages(t, "behind it", impl.DropBlock(list, at+n*impl.PageWords), impl.ErrRange)
		}
		between := slices.Concat(runOf(2), runOf(n), runOf(3))
		checkPages(t, numbered("a run between runs, of", n), impl.DropBlock(between, 2*impl.PageWords), slices.Concat(runOf(2), freePages(int(n)), runOf(3)), 2*impl.PageWords)
	}
}

func TestP1WhichCodeOfADropComesFirst(t *testing.T) {
	list := []impl.Page{slabOf(3, 0), freePage(), slabOf(1, 0)}
	for _, made := range []struct {
		name string
		at   int64
		code int64
	}{
		{"within a used slot", 7, impl.ErrForm},
		{"where a slot begins that is not used", 8, impl.ErrNone},
		{"within a slot that is not used", 9, impl.ErrNone},
		{"where a free page begins", 16, impl.ErrNone},
		{"within a free page", 31, impl.ErrNone},
		{"within a used slot behind it", 33, impl.ErrForm},
		{"the last place", 47, impl.ErrNone},
		{"behind the last place", 48, impl.ErrRange},
		{"ahead of the first place", -1, impl.ErrRange},
		{"the greatest place", greatest, impl.ErrRange},
		{"the least place", least, impl.ErrRange},
	} {
		checkNoPages(t, made.name, impl.DropBlock(list, made.at), made.code)
	}
}

func TestP5UsedInCountsThePagesThatAreNotFree(t *testing.T) {
	for _, list := range rightLists(3) {
		wanted := int64(0)
		for i := 0; i < len(list); i++ {
			if !equalPages(list[i:i+1], freePages(1)) {
				wanted++
			}
		}
		checkValue(t, "UsedIn", impl.UsedIn(list), wanted)
	}
	checkValue(t, "UsedIn no pages", impl.UsedIn(nil), 0)
	checkValue(t, "UsedIn pages of each kind", impl.UsedIn(mixedPages()), 18)
	for count := range impl.MaxPages + 1 {
		checkValue(t, "UsedIn free pages", impl.UsedIn(freePages(count)), 0)
		checkValue(t, "UsedIn full pages", impl.UsedIn(slices.Repeat([]impl.Page{slabWithout(1)}, count)), int64(count))
	}
	for n := int64(1); n <= impl.MaxRun; n++ {
		checkValue(t, "UsedIn a run", impl.UsedIn(append(runOf(n), freePage())), n)
	}
}
