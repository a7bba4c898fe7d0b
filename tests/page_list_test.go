package tests

import (
	"slices"
	"testing"

	"loop.example/g00729/impl"
)

// faultyPages is one page, at least, of each code.
func faultyPages() []impl.Page {
	return []impl.Page{
		{Kind: 4}, {Kind: -1}, runPage(0), runPage(5), {Kind: impl.PageSlab, Class: 4, Used: make([]bool, 16)},
		{Run: 1}, {Class: 2}, {Used: []bool{true}}, {Kind: impl.PageRest, Run: 1}, {Kind: impl.PageRun, Class: 1, Run: 2},
		{Kind: impl.PageSlab, Class: 3, Used: []bool{true}}, {Kind: impl.PageSlab},
		{Kind: impl.PageSlab, Class: 3, Used: make([]bool, 2)},
	}
}

func TestP1PagesFaultCountsThePages(t *testing.T) {
	for _, none := range [][]impl.Page{nil, {}} {
		if code := impl.PagesFault(none); code != impl.OK {
			t.Errorf("no pages: fault %d", code)
		}
	}
	for _, page := range []impl.Page{freePage(), slabOf(0, 5), slabWithout(3), runPage(1)} {
		for count := 1; count <= impl.MaxPages; count++ {
			if code := impl.PagesFault(slices.Repeat([]impl.Page{page}, count)); code != impl.OK {
				t.Errorf("%d times %v: fault %d", count, page, code)
			}
		}
	}
	// How many there are is asked ahead of what they are.
	for _, page := range append(faultyPages(), freePage(), slabOf(0, 5), runPage(1), runPage(4), restPage()) {
		for _, count := range []int{impl.MaxPages + 1, impl.MaxPages + 2, 2 * impl.MaxPages, 10000} {
			checkFaulty(t, numbered("too many pages", int64(count)), slices.Repeat([]impl.Page{page}, count), impl.ErrMany)
		}
	}
	checkFaulty(t, "a whole run behind the last page", slices.Concat(freePages(impl.MaxPages-1), runOf(2)), impl.ErrMany)
}

func TestP1PagesFaultIsThatOfTheFirstPageThatHasOne(t *testing.T) {
	for _, first := range faultyPages() {
		code := wantedPageFault(first)
		checkFaulty(t, "one page", []impl.Page{first}, code)
		checkFaulty(t, "the last page of all", append(freePages(impl.MaxPages-1), first), code)
		for _, second := range append(faultyPages(), freePage(), slabOf(2, 0), runPage(1), runPage(2), restPage()) {
			checkFaulty(t, "two pages", []impl.Page{first, second}, code)
			checkFaulty(t, "others around them", []impl.Page{freePage(), slabOf(1, 1), first, runPage(1), second, freePage()}, code)
		}
	}
}

func TestP1EachPageIsAskedAheadOfTheRuns(t *testing.T) {
	for _, page := range faultyPages() {
		code := wantedPageFault(page)
		checkFaulty(t, "behind a page that goes on with nothing", []impl.Page{restPage(), page}, code)
		checkFaulty(t, "far behind it", append([]impl.Page{freePage(), restPage(), freePage(), slabOf(0, 1)}, page), code)
		checkFaulty(t, "behind a run that ends too early", []impl.Page{runPage(3), restPage(), page}, code)
		checkFaulty(t, "behind a run that is too long", append(append(runOf(2), restPage()), page), code)
		checkFaulty(t, "within a run", []impl.Page{runPage(3), page, restPage()}, code)
		checkFaulty(t, "ahead of it", []impl.Page{page, restPage()}, code)
	}
}

func TestP1PagesFaultOfRunsThatAreNotWhole(t *testing.T) {
	cases := []struct {
		name string
		list []impl.Page
	}{
		{"a rest alone", []impl.Page{restPage()}},
		{"a rest at the beginning", []impl.Page{restPage(), freePage()}},
		{"a rest at the beginning, ahead of a run", append([]impl.Page{restPage()}, runOf(2)...)},
		{"a rest behind a free page", []impl.Page{freePage(), restPage()}},
		{"a rest behind a page of blocks", []impl.Page{slabOf(1, 1), restPage()}},
		{"a rest behind a run of one", []impl.Page{runPage(1), restPage()}},
		{"a rest behind a run of two", append(runOf(2), restPage())},
		{"a rest behind a run of four", append(runOf(4), restPage())},
		{"a rest behind a whole run and a free page", append(runOf(3), freePage(), restPage())},
		{"a run without its rest at the end", []impl.Page{runPage(2)}},
		{"a run with too little rest at the end", []impl.Page{freePage(), runPage(4), restPage(), restPage()}},
		{"a run that a free page ends", []impl.Page{runPage(2), freePage()}},
		{"a run that a free page ends late", []impl.Page{runPage(3), restPage(), freePage()}},
		{"a run that a page of blocks ends", []impl.Page{runPage(4), restPage(), slabOf(0, 0), restPage()}},
		{"a run with a free page in it", []impl.Page{runPage(3), freePage(), restPage()}},
		{"a run within a run", []impl.Page{runPage(3), runPage(1), restPage()}},
		{"a whole run within a run", []impl.Page{runPage(4), restPage(), runPage(2), restPage()}},
		{"a run that another one ends", []impl.Page{runPage(2), runPage(1)}},
		{"a run that one of its size ends", []impl.Page{runPage(2), runPage(2), restPage()}},
		{"a whole run ahead of one that is not", append(runOf(2), runPage(2))},
		{"a run over the last page", append(freePages(impl.MaxPages-1), runPage(2))},
		{"all pages go on", slices.Repeat([]impl.Page{restPage()}, impl.MaxPages)},
		{"all pages begin a run of two", slices.Repeat([]impl.Page{runPage(2)}, impl.MaxPages)},
	}
	for _, made := range cases {
		checkFaulty(t, made.name, made.list, impl.ErrState)
	}
}

func TestP1PagesFaultOfWholeRuns(t *testing.T) {
	lists := [][]impl.Page{
		runOf(1), runOf(2), runOf(3), runOf(4), slices.Concat(runOf(2), runOf(3), runOf(1)), slices.Concat(freePages(2), runOf(4)), slices.Concat(runOf(4), freePages(2)),
		slices.Repeat(runOf(4), impl.MaxPages/4), slices.Repeat(runOf(1), impl.MaxPages), slices.Concat(freePages(impl.MaxPages-4), runOf(4)), mixedPages(),
	}
	for _, list := range lists {
		if code := impl.PagesFault(list); code != impl.OK {
			t.Errorf("%v: fault %d", list, code)
		}
	}
}

// wholeNames is the names of all lists of so many pages whose runs are whole: a run is its number, and a point for each page that goes on with it.
func wholeNames(most int) map[string]bool {
	whole, last := map[string]bool{"": true}, []string{""}
	for len(last) > 0 {
		var longer []string
		for _, name := range last {
			for _, unit := range []string{"f", "s", "1", "2.", "3..", "4..."} {
				if next := name + unit; len(next) <= most {
					whole[next], longer = true, append(longer, next)
				}
			}
		}
		last = longer
	}
	return whole
}

func TestP1PagesFaultOfAllShortLists(t *testing.T) {
	const most = 6
	pages := map[byte]impl.Page{'f': freePage(), 's': slabOf(1, 3), '1': runPage(1), '2': runPage(2), '3': runPage(3), '4': runPage(4), '.': restPage()}
	whole := wholeNames(most)
	names := []string{""}
	for len(names) > 0 {
		name := names[0]
		names = names[1:]
		var list []impl.Page
		for i := range len(name) {
			list = append(list, pages[name[i]])
		}
		wanted := int64(impl.ErrState)
		if whole[name] {
			wanted = impl.OK
		}
		if got := impl.PagesFault(list); got != wanted {
			t.Fatalf("the pages %s: fault %d, wanted %d", name, got, wanted)
		}
		if len(name) < most {
			for _, unit := range "fs1234." {
				names = append(names, name+string(unit))
			}
		}
	}
}

func TestP1RightListsHaveNoFault(t *testing.T) {
	for _, list := range rightLists(2) {
		if code := impl.PagesFault(list); code != impl.OK {
			t.Errorf("%v: fault %d", list, code)
		}
	}
}
