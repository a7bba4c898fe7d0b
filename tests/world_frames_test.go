package tests

import (
	"slices"
	"testing"

	"loop.example/g00729/impl"
)

// checkFrames wants just these frames of the pages of a tenant, behind the events.
func checkFrames(t *testing.T, name string, c impl.Config, events []impl.Event, tenant int64, frames ...int64) impl.World {
	t.Helper()
	w := checkWorld(t, name, c, events)
	if got := w.Tenants[tenant].Table; !equalTables(got, tableOf(tenant, frames...)) {
		t.Errorf("%s: the table %v, wanted the frames %v", name, got, frames)
	}
	return w
}

// checkWordsAt wants just these words in a frame of the world.
func checkWordsAt(t *testing.T, name string, w impl.World, frame int64, wanted ...int64) {
	t.Helper()
	words := make([]int64, 16)
	copy(words, wanted)
	checkList(t, numbered(name+", the frame", frame), impl.FrameWords(w.Words, frame), words)
}

func TestP8APageThatBecomesUsedGetsTheLowestFrameThatIsFree(t *testing.T) {
	for tenant, own := range [][]int64{{0, 3, 6, 9}, {1, 4, 7, 10}, {2, 5, 8, 11}} {
		number := int64(tenant)
		for pages := int64(1); pages <= 4; pages++ {
			frames := slices.Repeat([]int64{-1}, int(pages))
			events := []impl.Event{createOf(number, pages)}
			checkFrames(t, "no page is used", pairConfig(), events, number, frames...)
			for page := range pages {
				events = append(events, doneBy(number, 0, allocOf(9))...)
				frames[page] = own[page]
				checkFrames(t, "one page more is used", pairConfig(), events, number, frames...)
			}
			copy(frames, own)
			run := append([]impl.Event{createOf(number, pages)}, doneBy(number, 0, zeroOf(16*pages))...)
			checkFrames(t, "all pages are used at once", pairConfig(), run, number, frames...)
		}
	}
}

func TestP8AFrameThatBecameFreeIsTheNextOne(t *testing.T) {
	events := append([]impl.Event{createOf(1, 4)}, doneBy(1, 0, allocOf(16), allocOf(16), allocOf(16), writeAt(17, 5), writeAt(32, 6), freeAt(0))...)
	w := checkFrames(t, "the first page is free", pairConfig(), events, 1, -1, 4, 7, -1)
	checkWordsAt(t, "the second page", w, 4, 0, 5)

	events = append(events, doneBy(1, 1, freeAt(32), allocOf(32))...)
	checkFrames(t, "a run behind the page that is used", pairConfig(), events, 1, -1, 4, 1, 7)

	events = append(events, doneBy(1, 0, freeAt(16), allocOf(3))...)
	w = checkFrames(t, "a slot of the first page", pairConfig(), events, 1, 4, -1, 1, 7)
	checkWordsAt(t, "the frame that was another page's", w, 4)
	for _, frame := range []int64{0, 2, 3, 5, 6, 8, 9, 10, 11} {
		checkWordsAt(t, "a frame that nobody has", w, frame)
	}
}

// TestP8AFrameIsGivenUpAheadOfAnyThatIsGranted grows a run: its old page becomes free at the same step at which the new ones become used.
func TestP8AFrameIsGivenUpAheadOfAnyThatIsGranted(t *testing.T) {
	events := append([]impl.Event{createOf(0, 4)}, doneBy(0, 0, allocOf(16), writeAt(0, 5), writeAt(15, -6))...)
	events = append(events, issueOf(0, 0, growAt(0, 20)))
	events = append(events, picksOf(0, 0, 4)...)
	w := checkFrames(t, "ahead of the last step", pairConfig(), events, 0, 0, -1, -1, -1)
	checkWordsAt(t, "the old page", w, 0, 5, 0, 0, 0, 0, 0, 0, 0, 0, 0, 0, 0, 0, 0, 0, -6)

	events = append(events, pickOf(0, 0))
	w = checkFrames(t, "behind the last step", pairConfig(), events, 0, -1, 0, 3, -1)
	checkWordsAt(t, "the new page has the frame of the old one", w, 0, 5, 0, 0, 0, 0, 0, 0, 0, 0, 0, 0, 0, 0, 0, 0, -6)
	checkWordsAt(t, "the second new page", w, 3)

	events = append(events, doneBy(0, 1, writeAt(32, 8), allocOf(1), growAt(48, 9))...)
	w = checkFrames(t, "there is no place for a run", pairConfig(), events, 0, 6, 0, 3, -1)
	checkWordsAt(t, "the second new page, written", w, 3, 8)
}

func TestP8APageThatIsDrainedForAnotherOneLosesItsFrame(t *testing.T) {
	events := append([]impl.Event{createOf(2, 4)}, doneBy(2, 0, allocOf(8), writeAt(0, 1), allocOf(4), writeAt(16, 2), allocOf(2), writeAt(32, 3), freeAt(0), freeAt(16))...)
	w := checkFrames(t, "what is at hand stays used", pairConfig(), events, 2, 2, 5, 8, -1)
	checkWordsAt(t, "what is at hand keeps its words", w, 5, 2)

	events = append(events, doneBy(2, 0, allocOf(32))...)
	w = checkFrames(t, "a run where two pages become free", pairConfig(), events, 2, 2, 5, 8, -1)
	checkWordsAt(t, "what stood in the first page", w, 2)
	checkWordsAt(t, "what stood in the second page", w, 5)
	checkWordsAt(t, "the page that stays used", w, 8, 3)

	events = append(events, doneBy(2, 0, freeAt(0), freeAt(32), allocOf(49))...)
	w = checkFrames(t, "a run of all pages", pairConfig(), events, 2, 2, 5, 8, 11)
	checkWordsAt(t, "the page that was at hand", w, 8)

	events = append(events, doneBy(2, 0, freeAt(0))...)
	w = checkFrames(t, "no page is used", pairConfig(), events, 2, -1, -1, -1, -1)
	checkList(t, "all is zero", impl.IntsResult{List: w.Words}, make([]int64, 192))
}

func TestP8AThingThatIsRefusedTakesNoFrame(t *testing.T) {
	events := append([]impl.Event{createOf(0, 3)}, doneBy(0, 0, allocOf(8), allocOf(20), writeAt(40, 9), freeAt(0))...)
	before := checkFrames(t, "one page is kept at hand", pairConfig(), events, 0, 0, 3, 6)
	after := checkFrames(t, "there is no place for four pages", pairConfig(), append(events, doneBy(0, 1, allocOf(64), allocOf(33), growAt(16, 33))...), 0, 0, 3, 6)
	if !slices.Equal(before.Words, after.Words) || !equalHeaps(impl.Heap{Mags: before.Tenants[0].Mags}, impl.Heap{Mags: after.Tenants[0].Mags}) {
		t.Error("what is refused drained the heap")
	}
}

// TestP9WhatWasWrittenStandsInTheFrameOfItsPage writes each place of each tenant, and wants all other words as they were.
func TestP9WhatWasWrittenStandsInTheFrameOfItsPage(t *testing.T) {
	c := pairConfig()
	events := []impl.Event{createOf(2, 4), createOf(0, 4), createOf(1, 4)}
	for tenant := range int64(3) {
		events = append(events, doneBy(tenant, 0, zeroOf(20), zeroOf(8), zeroOf(8), zeroOf(16))...)
	}
	words := checkWorld(t, "all pages are used", c, events).Words
	for at := range int64(64) {
		for tenant := range int64(3) {
			value := 1000*at + tenant - 30000
			w := checkReplies(t, "a word is written", c, append(slices.Clone(events), doneBy(tenant, 0, writeAt(at, value), readAt(at))...), doneWith(value, 2, 0))
			place := impl.Translate(c, w.Tenants[tenant].Table, at)
			if place.Code != impl.OK || !slices.Equal(w.Words, withWord(words, int(place.Value), value)) || impl.OwnerOf(c, place.Value/16) != (impl.IntResult{Value: tenant}) {
				t.Errorf("the tenant %d wrote at %d, which is %v of the words %v", tenant, at, place, w.Words)
			}
		}
	}
}

// TestP9WordsOfTwoTenantsDoNotMeet has all tenants write at the same places of their own, by turns.
func TestP9WordsOfTwoTenantsDoNotMeet(t *testing.T) {
	var events []impl.Event
	for tenant := range int64(3) {
		events = append(events, createOf(tenant, 2))
		events = append(events, doneBy(tenant, 0, allocOf(32))...)
	}
	for at := range int64(24) {
		var issues, picks []impl.Event
		for tenant := range int64(3) {
			issues, picks = append(issues, issueOf(tenant, 0, writeAt(at, 100*at+tenant+1))), append(picks, pickOf(tenant, 0))
		}
		events = slices.Concat(events, issues, picks, picks)
	}
	w := checkWorld(t, "all write at the same places", pairConfig(), events)
	for tenant := range int64(3) {
		words := make([]int64, 32)
		for at := range words[:24] {
			words[at] = int64(100*at) + tenant + 1
		}
		checkList(t, numbered("the words of", tenant), impl.IntsResult{List: impl.HeapOf(w, tenant).Heap.Words}, words)
	}
}
