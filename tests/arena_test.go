package tests

import (
	"testing"

	"loop.example/g00729/impl"
)

func TestNumbersAreThoseOfTheDocument(t *testing.T) {
	got := []int64{impl.OK, impl.ErrForm, impl.ErrMany, impl.ErrRange, impl.ErrNone, impl.ErrText, impl.ErrTaken, impl.ErrQuota, impl.ErrState, impl.ErrFull}
	for i, code := range got {
		if code != int64(i) {
			t.Errorf("code %d is %d", i, code)
		}
	}
	if impl.PageWords != 16 || impl.MaxFrames != 40 || impl.MaxValue != 1000000000 {
		t.Error("bounds", impl.PageWords, impl.MaxFrames, impl.MaxValue)
	}
}

func TestP2NewArenaIsSoManyFramesOfZeros(t *testing.T) {
	for frames := int64(1); frames <= impl.MaxFrames; frames++ {
		name := numbered("NewArena", frames)
		made := impl.NewArena(frames)
		checkList(t, name, made, make([]int64, frames*impl.PageWords))
		if code := impl.ArenaFault(made.List); code != impl.OK {
			t.Errorf("%s: fault %d", name, code)
		}
		if !impl.IsZeroFrame(made.List, 0) || !impl.IsZeroFrame(made.List, frames-1) || impl.IsZeroFrame(made.List, frames) {
			t.Errorf("%s: its frames", name)
		}
	}
}

func TestP1NewArenaOutsideOfItsBounds(t *testing.T) {
	for _, frames := range append(noFrames(impl.MaxFrames+1), 0) {
		checkCode(t, numbered("NewArena", frames), impl.NewArena(frames), impl.ErrMany)
	}
}

func TestP1ArenaFaultCountsFramesFirst(t *testing.T) {
	for frames := 1; frames <= impl.MaxFrames; frames++ {
		words := testArena(frames)
		for short := range impl.PageWords {
			wanted := int64(impl.ErrMany)
			if short == 0 {
				wanted = impl.OK
			}
			// The words are right or wrong; how many there are is asked ahead of that.
			if code := impl.ArenaFault(words[:len(words)-short]); code != wanted {
				t.Errorf("%d words: fault %d", len(words)-short, code)
			}
			if short == 0 {
				continue
			}
			if code := impl.ArenaFault(withWord(words, 0, impl.MaxValue+1)[:len(words)-short]); code != impl.ErrMany {
				t.Errorf("%d words, a wrong one among them: fault %d", len(words)-short, code)
			}
		}
	}
	for _, count := range []int{0, 1, 15, 17, 40*16 + 1, 41 * 16, 80 * 16, 100000 * 16} {
		words := make([]int64, count)
		if code := impl.ArenaFault(words); code != impl.ErrMany {
			t.Errorf("%d words: fault %d", count, code)
		}
	}
	if code := impl.ArenaFault(nil); code != impl.ErrMany {
		t.Errorf("nil: fault %d", code)
	}
}

func TestP1ArenaFaultAsksEveryWord(t *testing.T) {
	for _, frames := range []int{1, 2, impl.MaxFrames} {
		words := make([]int64, frames*impl.PageWords)
		for at := range words {
			for _, word := range []int64{impl.MaxValue, -impl.MaxValue, 1, -1} {
				if code := impl.ArenaFault(withWord(words, at, word)); code != impl.OK {
					t.Errorf("%d at %d: fault %d", word, at, code)
				}
			}
			for _, word := range wrongWords() {
				if code := impl.ArenaFault(withWord(words, at, word)); code != impl.ErrRange {
					t.Errorf("%d at %d: fault %d", word, at, code)
				}
			}
		}
	}
}

func wrongWords() []int64 {
	return []int64{impl.MaxValue + 1, -impl.MaxValue - 1, 1<<63 - 1, -1 << 63, -1<<63 + 1}
}

func TestP2AWrittenFrameIsReadAndTheOthersStay(t *testing.T) {
	for _, frames := range []int{1, 2, 3, 7, impl.MaxFrames} {
		words, page := testArena(frames), testPage()
		for frame := range frames {
			name := numbered("WriteFrame", int64(frame))
			written := impl.WriteFrame(words, int64(frame), page)
			checkList(t, name, written, wantedFrame(words, frame, page))
			checkList(t, name+", read", impl.FrameWords(written.List, int64(frame)), page)
			checkOtherFrames(t, name, words, written.List, frame)
		}
	}
}

func checkOtherFrames(t *testing.T, name string, before, after []int64, frame int) {
	t.Helper()
	for other := range len(before) / impl.PageWords {
		if other == frame {
			continue
		}
		wanted := before[other*impl.PageWords : (other+1)*impl.PageWords]
		checkList(t, numbered(name+", the frame", int64(other)), impl.FrameWords(after, int64(other)), wanted)
	}
}

func TestP2WriteFrameTakesWordsAtTheBounds(t *testing.T) {
	words := testArena(3)
	for at := range impl.PageWords {
		for _, word := range []int64{impl.MaxValue, -impl.MaxValue, 0} {
			page := withWord(testPage(), at, word)
			written := impl.WriteFrame(words, 2, page)
			checkList(t, numbered("the word", word), written, wantedFrame(words, 2, page))
		}
	}
}

func TestP2WrittenTwiceTheLastOneIsRead(t *testing.T) {
	words, page := testArena(2), testPage()
	first := impl.WriteFrame(words, 1, make([]int64, impl.PageWords))
	second := impl.WriteFrame(first.List, 1, page)
	checkList(t, "written twice", second, wantedFrame(words, 1, page))
	back := impl.WriteFrame(second.List, 1, words[impl.PageWords:])
	checkList(t, "written back", back, words)
}

func TestP2AFrameMadeNothingIsZeroAndTheOthersStay(t *testing.T) {
	zeros := make([]int64, impl.PageWords)
	for _, frames := range []int{1, 2, 3, 7, impl.MaxFrames} {
		words := testArena(frames)
		for frame := range frames {
			name := numbered("ZeroFrame", int64(frame))
			zeroed := impl.ZeroFrame(words, int64(frame))
			checkList(t, name, zeroed, wantedFrame(words, frame, zeros))
			checkOtherFrames(t, name, words, zeroed.List, frame)
			for other := range frames {
				if impl.IsZeroFrame(zeroed.List, int64(other)) != (other == frame) {
					t.Errorf("%s: is the frame %d zero?", name, other)
				}
			}
			checkList(t, name+", again", impl.ZeroFrame(zeroed.List, int64(frame)), zeroed.List)
		}
	}
}

func TestP2IsZeroFrameLooksAtEveryWordOfItsFrameAlone(t *testing.T) {
	for _, word := range []int64{1, -1, impl.MaxValue, -impl.MaxValue} {
		for at := range 3 * impl.PageWords {
			words := withWord(make([]int64, 3*impl.PageWords), at, word)
			for frame := range 3 {
				if impl.IsZeroFrame(words, int64(frame)) != (at/impl.PageWords != frame) {
					t.Errorf("%d at %d: is the frame %d zero?", word, at, frame)
				}
			}
		}
	}
}

func TestP1IsZeroFrameIsFalseWhereFrameWordsHasACode(t *testing.T) {
	zeros := make([]int64, 2*impl.PageWords)
	for _, frame := range noFrames(2) {
		if impl.IsZeroFrame(zeros, frame) {
			t.Errorf("the frame %d is zero", frame)
		}
	}
	tooMany := make([]int64, (impl.MaxFrames+1)*impl.PageWords)
	for _, words := range [][]int64{nil, {}, zeros[1:], zeros[:1], tooMany, withWord(zeros, 31, impl.MaxValue+1)} {
		if impl.IsZeroFrame(words, 0) {
			t.Errorf("the frame 0 of %v is zero", words)
		}
	}
}

func TestP1FramesThatAreNone(t *testing.T) {
	page := testPage()
	for _, frames := range []int{1, 2, impl.MaxFrames} {
		words := testArena(frames)
		for _, frame := range noFrames(int64(frames)) {
			name := numbered("the frame", frame)
			checkCode(t, "FrameWords, "+name, impl.FrameWords(words, frame), impl.ErrRange)
			checkCode(t, "WriteFrame, "+name, impl.WriteFrame(words, frame, page), impl.ErrRange)
			checkCode(t, "ZeroFrame, "+name, impl.ZeroFrame(words, frame), impl.ErrRange)
		}
	}
}

// checkArenaCode wants this code of each function that asks the ArenaFault.
func checkArenaCode(t *testing.T, name string, words []int64, frame int64, page []int64, code int64) {
	t.Helper()
	checkCode(t, "FrameWords, "+name, impl.FrameWords(words, frame), code)
	checkCode(t, "WriteFrame, "+name, impl.WriteFrame(words, frame, page), code)
	checkCode(t, "ZeroFrame, "+name, impl.ZeroFrame(words, frame), code)
}

func TestP1TheArenaFaultComesFirst(t *testing.T) {
	words, page := testArena(2), testPage()
	tooMany := make([]int64, (impl.MaxFrames+1)*impl.PageWords)
	wrongPages := [][]int64{page, nil, page[1:], append(testPage(), 1), withWord(page, 15, impl.MaxValue+1)}
	for _, frame := range []int64{0, -1, 2, 1<<63 - 1} {
		for _, given := range wrongPages {
			checkArenaCode(t, "nil", nil, frame, given, impl.ErrMany)
			checkArenaCode(t, "no words", []int64{}, frame, given, impl.ErrMany)
			checkArenaCode(t, "no whole frame", words[1:], frame, given, impl.ErrMany)
			checkArenaCode(t, "no whole frame and a wrong word", withWord(words, 5, impl.MaxValue+1)[1:], frame, given, impl.ErrMany)
			checkArenaCode(t, "too many frames", tooMany, frame, given, impl.ErrMany)
			checkArenaCode(t, "a wrong word", withWord(words, 0, -impl.MaxValue-1), frame, given, impl.ErrRange)
			checkArenaCode(t, "a wrong last word", withWord(words, 31, impl.MaxValue+1), frame, given, impl.ErrRange)
		}
	}
}

func TestP1WriteFrameAsksTheFrameThenThePage(t *testing.T) {
	words, page := testArena(2), testPage()
	long := append(testPage(), 1)
	for _, given := range [][]int64{nil, {}, page[:1], page[1:], long, make([]int64, 2*impl.PageWords), withWord(long, 0, impl.MaxValue+1), withWord(page, 15, impl.MaxValue+1)[1:]} {
		checkCode(t, "no frame, a page of a wrong length", impl.WriteFrame(words, 2, given), impl.ErrRange)
		checkCode(t, "a page of a wrong length", impl.WriteFrame(words, 1, given), impl.ErrMany)
	}
	for at := range page {
		for _, word := range wrongWords() {
			checkCode(t, "a page with a wrong word", impl.WriteFrame(words, 1, withWord(page, at, word)), impl.ErrRange)
		}
	}
}
