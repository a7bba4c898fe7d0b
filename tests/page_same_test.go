package tests

import (
	"slices"
	"testing"

	"loop.example/g00729/impl"
)

// checkSame wants this answer for both orders of the lists.
func checkSame(t *testing.T, name string, a, b []impl.Page, wanted bool) {
	t.Helper()
	if impl.SamePages(a, b) != wanted || impl.SamePages(b, a) != wanted {
		t.Errorf("%s: %v and %v, wanted %v", name, a, b, wanted)
	}
}

// anyPages is pages that differ from one another, with faults and without.
func anyPages() []impl.Page {
	pages := append(faultyPages(), freePage(), restPage(), runPage(1), runPage(2))
	for class, slots := range slotCounts {
		pages = append(pages, slabWithout(class))
		for slot := range slots {
			pages = append(pages, slabOf(class, slot))
		}
	}
	return append(pages, impl.Page{Kind: greatest, Class: greatest, Run: greatest}, impl.Page{Kind: least, Class: least, Run: least}, impl.Page{Used: make([]bool, 1000)})
}

func TestP5SamePagesOfThemselves(t *testing.T) {
	lists := [][]impl.Page{nil, anyPages(), mixedPages(), freePages(impl.MaxPages), freePages(impl.MaxPages + 1), {restPage()}, {runPage(4)}}
	for i, list := range lists {
		checkSame(t, "a list and itself", list, list, true)
		checkSame(t, "a list and its copy", list, copyOf(list), true)
		for _, other := range lists[:i] {
			checkSame(t, "two lists", list, other, false)
		}
	}
}

func TestP5SamePagesOfEachTwoPages(t *testing.T) {
	all := anyPages()
	for i, page := range all {
		for j, other := range all {
			same := equalPages(all[i:i+1], all[j:j+1])
			if same != (i == j) {
				t.Fatalf("the test has %v twice", page)
			}
			checkSame(t, "one page", []impl.Page{page}, []impl.Page{other}, same)
			checkSame(t, "the last page", []impl.Page{freePage(), page}, []impl.Page{freePage(), other}, same)
			checkSame(t, "the first page", []impl.Page{page, runPage(9), page}, []impl.Page{other, runPage(9), page}, same)
		}
	}
}

func TestP5SamePagesLooksAtEachField(t *testing.T) {
	for number := range mixedPages() {
		for _, away := range []int64{1, -1, 1 << 8, 1 << 32, -1 << 63} {
			for field := range 3 {
				changed := mixedPages()
				*[]*int64{&changed[number].Kind, &changed[number].Class, &changed[number].Run}[field] += away
				checkSame(t, "one number differs", mixedPages(), changed, false)
			}
		}
		for slot := range mixedPages()[number].Used {
			changed := mixedPages()
			changed[number].Used[slot] = !changed[number].Used[slot]
			checkSame(t, "one slot differs", mixedPages(), changed, false)
		}
		used := mixedPages()[number].Used
		for _, other := range [][]bool{append(slices.Clone(used), false), append(slices.Clone(used), true)} {
			changed := mixedPages()
			changed[number].Used = other
			checkSame(t, "one slot more", mixedPages(), changed, false)
		}
		if len(used) > 0 {
			changed := mixedPages()
			changed[number].Used = used[:len(used)-1]
			checkSame(t, "one slot fewer", mixedPages(), changed, false)
			changed[number].Used = nil
			checkSame(t, "no slots", mixedPages(), changed, false)
		}
	}
}

func TestP5SamePagesOfListsOfOtherLengths(t *testing.T) {
	list := mixedPages()
	for count := range list {
		checkSame(t, "a list and its beginning", list, list[:count], false)
		checkSame(t, "a list and its end", list, list[count+1:], false)
	}
	for count := 1; count <= impl.MaxPages+1; count++ {
		checkSame(t, "free pages and none", freePages(count), nil, false)
		checkSame(t, "free pages and one fewer", freePages(count), freePages(count-1), false)
	}
	swapped := []impl.Page{slabOf(1, 2), freePage()}
	checkSame(t, "another order", swapped, []impl.Page{freePage(), slabOf(1, 2)}, false)
}

func TestP5NilAndEmptyAreTheSame(t *testing.T) {
	checkSame(t, "no pages", nil, []impl.Page{}, true)
	checkSame(t, "no pages, with room for some", nil, make([]impl.Page, 0, 9), true)
	for _, page := range []impl.Page{freePage(), restPage(), runPage(2), {Kind: impl.PageSlab}, {Kind: 9, Class: 9, Run: 9}} {
		empty, roomy := page, page
		empty.Used, roomy.Used = []bool{}, make([]bool, 0, 16)
		checkSame(t, "no slots", []impl.Page{page}, []impl.Page{empty}, true)
		checkSame(t, "no slots, with room for some", []impl.Page{roomy}, []impl.Page{page}, true)
	}
}
