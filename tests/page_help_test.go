package tests

import (
	"slices"
	"testing"

	"loop.example/g00729/impl"
)

// slotCounts and slotSizes tell of each class how many slots a page has, and how many words a slot.
var slotCounts, slotSizes = []int{16, 8, 4, 2}, []int64{1, 2, 4, 8}

func freePage() impl.Page {
	return impl.Page{Kind: impl.PageFree}
}

// slabOf is a page of blocks of which just these slots are used.
func slabOf(class int, used ...int) impl.Page {
	page := impl.Page{Kind: impl.PageSlab, Class: int64(class), Used: make([]bool, slotCounts[class])}
	for _, slot := range used {
		page.Used[slot] = true
	}
	return page
}

// slabWithout is a page of blocks of which just these slots are not used.
func slabWithout(class int, unused ...int) impl.Page {
	page := impl.Page{Kind: impl.PageSlab, Class: int64(class), Used: slices.Repeat([]bool{true}, slotCounts[class])}
	for _, slot := range unused {
		page.Used[slot] = false
	}
	return page
}

func restPage() impl.Page {
	return impl.Page{Kind: impl.PageRest}
}

func runPage(n int64) impl.Page {
	return impl.Page{Kind: impl.PageRun, Run: n}
}

// runOf is a whole run.
func runOf(n int64) []impl.Page {
	return append([]impl.Page{runPage(n)}, slices.Repeat([]impl.Page{restPage()}, int(n)-1)...)
}

func freePages(count int) []impl.Page {
	return slices.Repeat([]impl.Page{freePage()}, count)
}

// copyOf shares no memory with list.
func copyOf(list []impl.Page) []impl.Page {
	pages := slices.Clone(list)
	for i := range pages {
		pages[i].Used = slices.Clone(list[i].Used)
	}
	return pages
}

// allUnits is what right pages are put together of: a free page, pages of each class, and whole runs.
func allUnits() [][]impl.Page {
	units := [][]impl.Page{{freePage()}}
	for class, slots := range slotCounts {
		for _, page := range []impl.Page{slabOf(class, 0), slabOf(class, slots-1), slabWithout(class), slabWithout(class, 0), slabWithout(class, slots-1)} {
			units = append(units, []impl.Page{page})
		}
	}
	for n := int64(1); n <= impl.MaxRun; n++ {
		units = append(units, runOf(n))
	}
	return units
}

// rightLists is every list of so many units at most.
func rightLists(units int) [][]impl.Page {
	all, last := [][]impl.Page{nil}, [][]impl.Page{nil}
	for range units {
		var longer [][]impl.Page
		for _, list := range last {
			for _, unit := range allUnits() {
				longer = append(longer, slices.Concat(list, unit))
			}
		}
		all, last = append(all, longer...), longer
	}
	return all
}

// mixedPages has pages of every kind and class, and each class both full and not.
func mixedPages() []impl.Page {
	pages := []impl.Page{freePage(), slabOf(0, 3, 15), slabWithout(1)}
	pages = append(pages, runOf(3)...)
	pages = append(pages, slabWithout(2, 1), slabOf(3, 1), freePage(), freePage())
	pages = append(pages, runOf(1)...)
	pages = append(pages, slabWithout(0), slabOf(1, 0, 7), slabWithout(3))
	pages = append(pages, runOf(2)...)
	pages = append(pages, freePage(), slabWithout(2))
	return append(pages, runOf(4)...)
}

// holding is the block that has a place in it; where nothing is, its size is 0.
type holding struct{ start, size int64 }

// holdingsOf lays blocks one behind the other and tells of each place what is there, apart from the program's division.
func holdingsOf(list []impl.Page) []holding {
	var all []holding
	lay := func(used bool, words int64) {
		held := holding{start: int64(len(all)), size: words}
		if !used {
			held = holding{}
		}
		all = append(all, slices.Repeat([]holding{held}, int(words))...)
	}
	for _, page := range list {
		switch page.Kind {
		case impl.PageFree:
			lay(false, impl.PageWords)
		case impl.PageRun:
			lay(true, page.Run*impl.PageWords)
		case impl.PageSlab:
			for _, used := range page.Used {
				lay(used, slotSizes[page.Class])
			}
		}
	}
	return all
}

// equalPages holds lists against each other apart from the program; nil and an empty Used are the same.
func equalPages(a, b []impl.Page) bool {
	return slices.EqualFunc(a, b, func(x, y impl.Page) bool {
		return x.Kind == y.Kind && x.Class == y.Class && x.Run == y.Run && slices.Equal(x.Used, y.Used)
	})
}

// checkPages wants OK and just these pages and this place.
func checkPages(t *testing.T, name string, got impl.PagesResult, pages []impl.Page, at int64) {
	t.Helper()
	if got.Code != impl.OK || got.At != at {
		t.Errorf("%s: code %d, place %d, wanted the place %d", name, got.Code, got.At, at)
	}
	if !equalPages(got.Pages, pages) {
		t.Errorf("%s:\ngot    %v\nwanted %v", name, got.Pages, pages)
	}
	if code := impl.PagesFault(got.Pages); code != impl.OK {
		t.Errorf("%s: fault %d of what is answered", name, code)
	}
}

// checkNoPages wants this code and nothing beside it.
func checkNoPages(t *testing.T, name string, got impl.PagesResult, code int64) {
	t.Helper()
	if got.Code != code || len(got.Pages) != 0 || got.At != 0 {
		t.Errorf("%s: %v, wanted the code %d alone", name, got, code)
	}
}

// checkFaulty wants this code of PagesFault, and of each function that asks it, whatever else it is asked.
func checkFaulty(t *testing.T, name string, list []impl.Page, code int64) {
	t.Helper()
	if got := impl.PagesFault(list); got != code {
		t.Errorf("%s: fault %d, wanted %d", name, got, code)
	}
	checkNoValue(t, name+", UsedIn", impl.UsedIn(list), code)
	for _, number := range []int64{0, 1, 4, 5, -1, 16, 700, greatest, least} {
		checkNoPages(t, numbered(name+", FindSlot", number), impl.FindSlot(list, number), code)
		checkNoValue(t, numbered(name+", FindRun", number), impl.FindRun(list, number), code)
		checkNoPages(t, numbered(name+", TakeRun of 1 at", number), impl.TakeRun(list, number, 1), code)
		checkNoPages(t, numbered(name+", TakeRun at 0 of", number), impl.TakeRun(list, 0, number), code)
		checkNoPages(t, numbered(name+", DropBlock", number), impl.DropBlock(list, number), code)
		checkNoValue(t, numbered(name+", BlockStart", number), impl.BlockStart(list, number), code)
		checkNoValue(t, numbered(name+", BlockSize", number), impl.BlockSize(list, number), code)
	}
}
