package tests

import (
	"slices"
	"testing"

	"loop.example/g00729/impl"
)

func TestNumbersOfPagesAreThoseOfTheDocument(t *testing.T) {
	if impl.PageFree != 0 || impl.PageSlab != 1 || impl.PageRun != 2 || impl.PageRest != 3 || impl.MaxPages != 40 {
		t.Error("numbers", impl.PageFree, impl.PageSlab, impl.PageRun, impl.PageRest, impl.MaxPages)
	}
}

// checkPage wants this code of PageFault, and of PagesFault of a list with this page among others.
func checkPage(t *testing.T, name string, page impl.Page, code int64) {
	t.Helper()
	if got := impl.PageFault(page); got != code {
		t.Errorf("%s, %v: fault %d, wanted %d", name, page, got, code)
	}
	if page.Kind == impl.PageRest || page.Kind == impl.PageRun && page.Run != 1 {
		return
	}
	for _, list := range [][]impl.Page{{page}, {page, freePage()}, {slabOf(2, 1), page}, {freePage(), page, slabOf(1, 0)}} {
		if got := impl.PagesFault(list); got != code {
			t.Errorf("%s, in %v: fault %d, wanted %d", name, list, got, code)
		}
	}
}

// wantedPageFault goes through the codes as the chapter tells them, apart from the program.
func wantedPageFault(p impl.Page) int64 {
	slots := map[int64]int{0: 16, 1: 8, 2: 4, 3: 2}[p.Class]
	isSlab, isRun := p.Kind == impl.PageSlab, p.Kind == impl.PageRun
	switch {
	case p.Kind < 0 || p.Kind > 3 || isSlab && slots == 0 || isRun && (p.Run < 1 || p.Run > 4):
		return impl.ErrRange
	case !isSlab && (p.Class != 0 || len(p.Used) > 0) || !isRun && p.Run != 0:
		return impl.ErrForm
	case isSlab && len(p.Used) != slots:
		return impl.ErrMany
	case isSlab && !slices.Contains(p.Used, true):
		return impl.ErrNone
	}
	return impl.OK
}

// usedLists is lists of each length around those of the classes, with no slot used, one, and all.
func usedLists() [][]bool {
	lists := [][]bool{nil, {}}
	for length := 1; length <= 18; length++ {
		first, last := make([]bool, length), make([]bool, length)
		first[0], last[length-1] = true, true
		lists = append(lists, make([]bool, length), first, last, slices.Repeat([]bool{true}, length))
	}
	return append(lists, make([]bool, 100000), slices.Repeat([]bool{true}, 100000))
}

func TestP1PageFaultOfManyPages(t *testing.T) {
	numbers := []int64{-2, -1, 0, 1, 2, 3, 4, 5, 6, greatest, least}
	for _, kind := range numbers {
		for _, class := range numbers {
			for _, run := range numbers {
				for _, used := range usedLists() {
					page := impl.Page{Kind: kind, Class: class, Used: used, Run: run}
					if got, wanted := impl.PageFault(page), wantedPageFault(page); got != wanted {
						t.Fatalf("Kind %d, Class %d, Run %d, %d slots: fault %d, wanted %d", kind, class, run, len(used), got, wanted)
					}
				}
			}
		}
	}
}

func TestP1PageFaultOfRightPages(t *testing.T) {
	checkPage(t, "the zero value", impl.Page{}, impl.OK)
	checkPage(t, "a free page with an empty Used", impl.Page{Used: []bool{}}, impl.OK)
	checkPage(t, "a page that goes on", restPage(), impl.OK)
	checkPage(t, "a page that goes on, with an empty Used", impl.Page{Kind: impl.PageRest, Used: []bool{}}, impl.OK)
	for n := int64(1); n <= impl.MaxRun; n++ {
		checkPage(t, numbered("a run of", n), runPage(n), impl.OK)
		checkPage(t, numbered("with an empty Used, a run of", n), impl.Page{Kind: impl.PageRun, Run: n, Used: []bool{}}, impl.OK)
	}
	for class, slots := range slotCounts {
		checkPage(t, "all slots", slabWithout(class), impl.OK)
		for slot := range slots {
			checkPage(t, "one slot", slabOf(class, slot), impl.OK)
			checkPage(t, "all slots but one", slabWithout(class, slot), impl.OK)
		}
	}
}

func TestP1PageFaultBoundsTheKind(t *testing.T) {
	for _, kind := range append(outside(0, 3), farOutside(0, 3)...) {
		name := numbered("the kind", kind)
		checkPage(t, name, impl.Page{Kind: kind}, impl.ErrRange)
		checkPage(t, name+", with all else", impl.Page{Kind: kind, Class: 2, Used: slabOf(2, 0).Used, Run: 1}, impl.ErrRange)
		checkPage(t, name+", with all else wrong", impl.Page{Kind: kind, Class: 9, Used: make([]bool, 3), Run: 9}, impl.ErrRange)
	}
}

func TestP1PageFaultBoundsTheClass(t *testing.T) {
	for _, class := range append(outside(0, impl.MaxClass), farOutside(0, impl.MaxClass)...) {
		name := numbered("the class", class)
		for _, used := range [][]bool{nil, {true}, slabOf(3, 0).Used, slabOf(2, 0).Used, slabWithout(1).Used, slabWithout(0).Used, make([]bool, 16)} {
			checkPage(t, name, impl.Page{Kind: impl.PageSlab, Class: class, Used: used}, impl.ErrRange)
			checkPage(t, name+", with a Run", impl.Page{Kind: impl.PageSlab, Class: class, Used: used, Run: 1}, impl.ErrRange)
		}
	}
}

func TestP1PageFaultBoundsTheRun(t *testing.T) {
	for _, run := range append(outside(1, impl.MaxRun), farOutside(1, impl.MaxRun)...) {
		name := numbered("the run", run)
		checkPage(t, name, runPage(run), impl.ErrRange)
		checkPage(t, name+", with a Class", impl.Page{Kind: impl.PageRun, Class: 1, Run: run}, impl.ErrRange)
		checkPage(t, name+", with slots", impl.Page{Kind: impl.PageRun, Used: []bool{true}, Run: run}, impl.ErrRange)
	}
}

func TestP1PageFaultOfWhatAKindDoesNotNeed(t *testing.T) {
	var numbers []int64
	for _, number := range append(farOutside(1, 4), 1, 2, 3, 4, 5, -1, greatest, least) {
		if number != 0 {
			numbers = append(numbers, number)
		}
	}
	for _, bare := range []impl.Page{freePage(), restPage(), runPage(1), runPage(impl.MaxRun)} {
		for _, number := range numbers {
			page := bare
			page.Class = number
			checkPage(t, "a Class that is not needed", page, impl.ErrForm)
		}
		for _, used := range [][]bool{{false}, {true}, make([]bool, 16), slabOf(0, 0).Used, make([]bool, 100000)} {
			page := bare
			page.Used = used
			checkPage(t, "a Used that is not needed", page, impl.ErrForm)
		}
	}
	for _, bare := range []impl.Page{freePage(), restPage(), slabOf(0, 0), slabWithout(3)} {
		for _, number := range numbers {
			page := bare
			page.Run = number
			checkPage(t, "a Run that is not needed", page, impl.ErrForm)
		}
	}
}

func TestP1PageFaultCountsTheSlots(t *testing.T) {
	for class, slots := range slotCounts {
		for _, count := range []int{0, 1, slots - 1, slots, slots + 1, 2 * slots, 2, 4, 8, 16, 17, 100000} {
			allUsed, noneUsed := int64(impl.ErrMany), int64(impl.ErrMany)
			if count == slots {
				allUsed, noneUsed = impl.OK, impl.ErrNone
			}
			name := numbered(numbered("the class", int64(class))+", slots", int64(count))
			page := impl.Page{Kind: impl.PageSlab, Class: int64(class), Used: make([]bool, count)}
			checkPage(t, name+", none used", page, noneUsed)
			page.Used = slices.Repeat([]bool{true}, count)
			checkPage(t, name+", all used", page, allUsed)
		}
	}
}

func TestP1WhichCodeOfAPageComesFirst(t *testing.T) {
	slab, run := int64(impl.PageSlab), int64(impl.PageRun)
	cases := []struct {
		name string
		page impl.Page
		code int64
	}{
		{"the class ahead of the form", impl.Page{Kind: slab, Class: 4, Run: 1, Used: []bool{true}}, impl.ErrRange},
		{"the class ahead of how many slots", impl.Page{Kind: slab, Class: -1}, impl.ErrRange},
		{"the class ahead of no used slot", impl.Page{Kind: slab, Class: 4, Used: make([]bool, 16)}, impl.ErrRange},
		{"the run ahead of the form", impl.Page{Kind: run, Class: 1, Run: 5}, impl.ErrRange},
		{"no run ahead of the form", impl.Page{Kind: run, Class: 9, Used: []bool{true}}, impl.ErrRange},
		{"the form ahead of how many slots", impl.Page{Kind: slab, Class: 3, Run: 1, Used: []bool{true}}, impl.ErrForm},
		{"the form ahead of no used slot", impl.Page{Kind: slab, Class: 3, Run: 9, Used: make([]bool, 2)}, impl.ErrForm},
		{"how many slots ahead of no used slot", impl.Page{Kind: slab, Class: 3, Used: make([]bool, 3)}, impl.ErrMany},
		{"no slots are not as many, and none is used", impl.Page{Kind: slab}, impl.ErrMany},
		{"as many slots as another class has, none used", impl.Page{Kind: slab, Class: 1, Used: make([]bool, 4)}, impl.ErrMany},
		{"a class that a free page does not need, and that is none", impl.Page{Class: 9}, impl.ErrForm},
		{"a run that a free page does not need, and that is none", impl.Page{Run: -9}, impl.ErrForm},
		{"slots that a run does not need, none used", impl.Page{Kind: run, Run: 2, Used: make([]bool, 16)}, impl.ErrForm},
	}
	for _, made := range cases {
		checkPage(t, made.name, made.page, made.code)
	}
}
