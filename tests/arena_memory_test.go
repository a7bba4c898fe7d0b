package tests

import (
	"slices"
	"testing"

	"loop.example/g00729/impl"
)

// roomy is a copy of list with more memory behind it, which holds words that must stay.
func roomy(list []int64) []int64 {
	whole := append(slices.Clone(list), testPage()...)
	return whole[:len(list)]
}

// checkKept wants list as it was, and the memory behind it, too.
func checkKept(t *testing.T, name string, list, before []int64) {
	t.Helper()
	if !slices.Equal(list, before) {
		t.Errorf("%s: an argument was changed", name)
	}
	if behind := list[len(list) : len(list)+impl.PageWords]; !slices.Equal(behind, testPage()) {
		t.Errorf("%s: memory behind an argument was changed", name)
	}
}

// spoil overwrites all that the memory of list holds.
func spoil(list []int64) {
	whole := list[:cap(list)]
	for i := range whole {
		whole[i] = 4444
	}
}

type arenaCall struct {
	name string
	call func(words []int64, frame int64, page []int64) impl.IntsResult
}

func arenaCalls() []arenaCall {
	return []arenaCall{
		{"FrameWords", func(words []int64, frame int64, _ []int64) impl.IntsResult { return impl.FrameWords(words, frame) }},
		{"WriteFrame", impl.WriteFrame},
		{"ZeroFrame", func(words []int64, frame int64, _ []int64) impl.IntsResult { return impl.ZeroFrame(words, frame) }},
		{"IsZeroFrame", func(words []int64, frame int64, _ []int64) impl.IntsResult {
			impl.IsZeroFrame(words, frame)
			return impl.IntsResult{}
		}},
		{"ArenaFault", func(words []int64, _ int64, _ []int64) impl.IntsResult {
			return impl.IntsResult{Code: impl.ArenaFault(words)}
		}},
	}
}

func TestP1TheArgumentsStay(t *testing.T) {
	arenas := [][]int64{testArena(1), testArena(3), testArena(impl.MaxFrames), nil, testArena(2)[1:], withWord(testArena(2), 31, impl.MaxValue+1)}
	pages := [][]int64{testPage(), nil, testPage()[1:], withWord(testPage(), 15, impl.MaxValue+1)}
	for _, made := range arenaCalls() {
		for _, words := range arenas {
			for _, page := range pages {
				for _, frame := range []int64{0, 2, 39, -1, 40} {
					givenWords, givenPage := roomy(words), roomy(page)
					made.call(givenWords, frame, givenPage)
					checkKept(t, made.name, givenWords, words)
					checkKept(t, made.name, givenPage, page)
				}
			}
		}
	}
}

func TestP1TheAnswerIsNewMemory(t *testing.T) {
	for _, made := range arenaCalls() {
		for _, frames := range []int{1, 2, impl.MaxFrames} {
			for _, frame := range []int{0, frames - 1} {
				words, page := testArena(frames), testPage()
				givenWords, givenPage := roomy(words), roomy(page)
				first := made.call(givenWords, int64(frame), givenPage)
				second := made.call(givenWords, int64(frame), givenPage)
				wanted := slices.Clone(first.List)

				spoil(first.List)
				checkKept(t, made.name+", its answer overwritten", givenWords, words)
				checkKept(t, made.name+", its answer overwritten", givenPage, page)
				checkList(t, made.name+", the other answer overwritten", second, wanted)

				spoil(givenWords)
				spoil(givenPage)
				checkList(t, made.name+", its arguments overwritten", second, wanted)
			}
		}
	}
}

func TestP1AnArenaIsNewEachTime(t *testing.T) {
	first, second := impl.NewArena(2), impl.NewArena(2)
	spoil(first.List)
	zeros := make([]int64, 2*impl.PageWords)
	checkList(t, "an arena beside one that was overwritten", second, zeros)
	checkList(t, "an arena behind one that was overwritten", impl.NewArena(2), zeros)
}

func TestP1ThePageMayBePartOfTheArena(t *testing.T) {
	words := testArena(3)
	page := words[2*impl.PageWords:]
	written := impl.WriteFrame(words, 0, page)
	checkList(t, "a page out of the arena itself", written, wantedFrame(testArena(3), 0, testArena(3)[2*impl.PageWords:]))
	if !slices.Equal(words, testArena(3)) {
		t.Error("the arena was changed")
	}
}

func TestP1NothingIsKeptFromCallToCall(t *testing.T) {
	words, page := testArena(3), testPage()
	wantedRead := impl.FrameWords(words, 1)
	wantedWritten := impl.WriteFrame(words, 1, page)
	impl.NewArena(impl.MaxFrames)
	impl.WriteFrame(testArena(2), 1, make([]int64, impl.PageWords))
	impl.WriteFrame(testArena(2), 9, nil)
	impl.ZeroFrame(words, 1)
	impl.IsZeroFrame(nil, 0)
	checkList(t, "FrameWords, once more", impl.FrameWords(words, 1), wantedRead.List)
	checkList(t, "WriteFrame, once more", impl.WriteFrame(words, 1, page), wantedWritten.List)
}
