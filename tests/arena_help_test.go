package tests

import (
	"slices"
	"strconv"
	"testing"

	"loop.example/g00729/impl"
)

const least, greatest = -1 << 63, 1<<63 - 1

// testArena has a different word at every place, the bounds among them, so that a word in a wrong place shows.
func testArena(frames int) []int64 {
	words := make([]int64, frames*impl.PageWords)
	for i := range words {
		words[i] = int64(i + 1)
		if i%2 == 1 {
			words[i] = -words[i]
		}
	}
	words[0] = impl.MaxValue
	words[len(words)-1] = -impl.MaxValue
	return words
}

// testPage has words that no testArena has.
func testPage() []int64 {
	page := make([]int64, impl.PageWords)
	for i := range page {
		page[i] = int64(5000 + 7*i)
	}
	return page
}

// withWord is a copy of list with one word of it replaced.
func withWord(list []int64, at int, word int64) []int64 {
	changed := slices.Clone(list)
	changed[at] = word
	return changed
}

// wantedFrame is worked out by plain loops, apart from the program.
func wantedFrame(words []int64, frame int, page []int64) []int64 {
	wanted := make([]int64, 0, len(words))
	for i, word := range words {
		if i/impl.PageWords == frame {
			word = page[i%impl.PageWords]
		}
		wanted = append(wanted, word)
	}
	return wanted
}

// checkList wants OK and just these words.
func checkList(t *testing.T, name string, got impl.IntsResult, wanted []int64) {
	t.Helper()
	if got.Code != impl.OK {
		t.Errorf("%s: code %d", name, got.Code)
	}
	if !slices.Equal(got.List, wanted) {
		t.Errorf("%s:\ngot    %v\nwanted %v", name, got.List, wanted)
	}
}

// checkCode wants this code and nothing beside it.
func checkCode(t *testing.T, name string, got impl.IntsResult, code int64) {
	t.Helper()
	if got.Code != code {
		t.Errorf("%s: code %d, wanted %d", name, got.Code, code)
	}
	if len(got.List) != 0 {
		t.Errorf("%s: a code, and a list of %d words", name, len(got.List))
	}
}

// noFrames are numbers that are no frame of an arena of so many; the great ones wrap around to a
// frame where they are multiplied or added to ahead of the comparison.
func noFrames(frames int64) []int64 {
	return []int64{-1, frames, frames + 1, -frames, greatest, least, least + 1, greatest - 15, 1 << 60, 1<<60 + 1, -1 << 60, 1 << 59, 1 << 32}
}

func numbered(name string, number int64) string {
	return name + " " + strconv.FormatInt(number, 10)
}
