package tests

import (
	"slices"
	"testing"

	"loop.example/g00729/impl"
)

// ownWords is words for the pages of table that no testArena has, the bounds among them; those of pages without a frame are no words at all.
func ownWords(table impl.Table) []int64 {
	var own []int64
	for page, frame := range table.Frames {
		for i := range int64(16) {
			word := 20000 + 100*int64(page) + i
			switch {
			case frame == -1:
				word = wrongWords()[i%5]
			case i == 3:
				word = -impl.MaxValue
			case i == 8:
				word = impl.MaxValue
			case i%2 == 1:
				word = -word
			}
			own = append(own, word)
		}
	}
	return own
}

// checkLaid lays words, wants all other frames as they were, and gathers the words again.
func checkLaid(t *testing.T, name string, c impl.Config, table impl.Table, words, own []int64) {
	t.Helper()
	checkList(t, name+", gathered", impl.GatherWords(c, table, words), wantedGathered(table, words))
	laid := impl.ScatterWords(c, table, words, own)
	checkList(t, name+", laid", laid, wantedScattered(table, words, own))
	for frame := range c.Frames {
		if !slices.Contains(table.Frames, frame) {
			checkList(t, numbered(name+", no page's frame", frame), impl.FrameWords(laid.List, frame), words[16*frame:16*frame+16])
		}
	}
	again := impl.GatherWords(c, table, laid.List).List
	for page, frame := range table.Frames {
		wanted := own[16*page : 16*page+16]
		if frame == -1 {
			wanted = make([]int64, 16)
		}
		checkList(t, numbered(name+", gathered again, the page", int64(page)), impl.FrameWords(again, int64(page)), wanted)
	}
}

func TestP8WordsOfTheExample(t *testing.T) {
	c := configOf(3, 1, tenantOf(1, 0))
	table := tableOf(0, 2, -1, 0)
	words := testArena(3)
	checkList(t, "gathered", impl.GatherWords(c, table, words), slices.Concat(words[32:], make([]int64, 16), words[:16]))
	own := slices.Concat(testPage(), slices.Repeat([]int64{greatest}, 16), slices.Repeat([]int64{-3}, 16))
	laid := slices.Concat(slices.Repeat([]int64{-3}, 16), words[16:32], testPage())
	checkList(t, "laid", impl.ScatterWords(c, table, words, own), laid)
	checkList(t, "gathered again", impl.GatherWords(c, table, laid), slices.Concat(testPage(), make([]int64, 16), slices.Repeat([]int64{-3}, 16)))
}

func TestP8WordsOfRightTables(t *testing.T) {
	for _, table := range testTables() {
		checkLaid(t, "a table", testConfig(), table, testArena(10), ownWords(table))
		if t.Failed() {
			t.Fatalf("the table is %v", table)
		}
	}
}

func TestP8WordsOfAllFrames(t *testing.T) {
	own := ownFrames(wideConfig(), 0)
	falling := slices.Clone(own)
	slices.Reverse(falling)
	for _, frames := range [][]int64{own, falling, append(slices.Clone(own[7:]), own[:7]...), falling[:13], withWord(own, 20, -1), withWord(withWord(falling, 0, -1), 39, -1), slices.Repeat([]int64{-1}, 40)} {
		table := tableOf(0, frames...)
		checkLaid(t, "many frames", wideConfig(), table, testArena(40), ownWords(table))
	}
}

func TestP8ATableWithoutPagesHasNoWords(t *testing.T) {
	for _, c := range tableConfigs() {
		words := testArena(int(c.Frames))
		for tenant := range int64(len(c.Tenants)) {
			for _, table := range []impl.Table{tableOf(tenant), {Tenant: tenant, Frames: []int64{}}} {
				checkList(t, "gathered", impl.GatherWords(c, table, words), nil)
				for _, own := range [][]int64{nil, {}, make([]int64, 0, 16)} {
					checkList(t, "laid", impl.ScatterWords(c, table, words, own), words)
				}
				checkCode(t, "one word", impl.ScatterWords(c, table, words, []int64{1}), impl.ErrState)
				checkCode(t, "a page of words", impl.ScatterWords(c, table, words, testPage()), impl.ErrState)
			}
		}
	}
}

// checkWordsCode wants this code of both, whatever own is.
func checkWordsCode(t *testing.T, name string, c impl.Config, table impl.Table, words []int64, code int64) {
	t.Helper()
	checkCode(t, name+", GatherWords", impl.GatherWords(c, table, words), code)
	for _, own := range [][]int64{ownWords(table), nil, testPage(), make([]int64, 640), {greatest}, slices.Repeat([]int64{impl.MaxValue + 1}, 16*len(table.Frames))} {
		checkCode(t, name+", ScatterWords", impl.ScatterWords(c, table, words, own), code)
	}
}

func TestP1TheFaultOfTheArenaComesFirst(t *testing.T) {
	for _, table := range []impl.Table{tableOf(0), tableOf(0, 6, -1, 0, 9), bareTable(0, 4), tableOf(2, 5, 7), tableOf(1)} {
		for _, words := range [][]int64{nil, {}, {1}, testArena(10)[1:], append(testArena(10), 1), testArena(1)[1:], make([]int64, 656), slices.Repeat([]int64{greatest}, 15)} {
			checkWordsCode(t, "not whole frames, or too many", testConfig(), table, words, impl.ErrMany)
		}
		for _, word := range wrongWords() {
			for at := range 160 {
				checkWordsCode(t, "a wrong word", testConfig(), table, withWord(testArena(10), at, word), impl.ErrRange)
			}
			checkWordsCode(t, "a wrong word, and too few frames", testConfig(), table, withWord(testArena(9), 143, word), impl.ErrRange)
			checkWordsCode(t, "a wrong word, and too many frames", testConfig(), table, withWord(testArena(11), 175, word), impl.ErrRange)
		}
	}
}

func TestP1AnArenaOfAnotherNumberOfFrames(t *testing.T) {
	for frames := int64(1); frames <= impl.MaxFrames; frames++ {
		c := configOf(frames, 2, tenantOf(1, 0), tenantOf(1, 1))
		for count := range impl.MaxFrames {
			for _, table := range []impl.Table{tableOf(0, 0), bareTable(0, 1), tableOf(1)} {
				if words := testArena(count + 1); int64(count+1) == frames {
					checkLaid(t, "as many frames", c, table, words, ownWords(table))
				} else {
					checkWordsCode(t, numbered("so many frames:", int64(count+1)), c, table, words, impl.ErrForm)
				}
			}
		}
	}
}

func TestP8OwnHasAsManyWordsAsThePages(t *testing.T) {
	c, words := testConfig(), testArena(10)
	for _, table := range []impl.Table{tableOf(0, 6, -1, 0, 9), bareTable(0, 2), tableOf(2, 7), tableOf(2, -1)} {
		right := ownWords(table)
		for _, own := range [][]int64{
			nil, {}, right[1:], right[:len(right)-1], append(slices.Clone(right), 0), append(slices.Clone(right), testPage()...), right[16:], right[:1],
			slices.Repeat([]int64{impl.MaxValue + 1}, len(right)+1), slices.Repeat([]int64{least}, len(right)-1), make([]int64, 160), make([]int64, 640),
		} {
			checkCode(t, numbered("so many words of own:", int64(len(own))), impl.ScatterWords(c, table, words, own), impl.ErrState)
		}
		checkLaid(t, "as many words as there have to be", c, table, words, right)
	}
}

func TestP8EachWordOfOwnIsBounded(t *testing.T) {
	c, words := testConfig(), testArena(10)
	for _, table := range []impl.Table{tableOf(0, 6, -1, 0, 9), tableOf(0, 3), tableOf(2, -1, 1, -1), bareTable(0, 4)} {
		right := ownWords(table)
		for at := range right {
			for _, word := range []int64{impl.MaxValue, -impl.MaxValue, impl.MaxValue - 1, 1 - impl.MaxValue, 0} {
				checkLaid(t, "a word at a bound", c, table, words, withWord(right, at, word))
			}
			for _, word := range wrongWords() {
				own := withWord(right, at, word)
				if table.Frames[at/16] == -1 {
					checkLaid(t, "no word, of a page without a frame", c, table, words, own)
				} else {
					checkCode(t, "no word", impl.ScatterWords(c, table, words, own), impl.ErrRange)
				}
			}
		}
	}
}

// TestP8WordsStandWherePlacesAreTranslated holds the chapter's ways to a word against each other.
func TestP8WordsStandWherePlacesAreTranslated(t *testing.T) {
	words := testArena(10)
	for _, table := range testTables() {
		own := impl.GatherWords(testConfig(), table, words).List
		for at, word := range own {
			place := impl.Translate(testConfig(), table, int64(at))
			if place.Code == impl.OK && words[place.Value] != word || place.Code != impl.OK && word != 0 {
				t.Fatalf("%v: the word %d at %d, and the place %v", table, word, at, place)
			}
		}
	}
}
