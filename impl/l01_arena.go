package impl

import "slices"

const OK = 0
const ErrForm = 1
const ErrMany = 2
const ErrRange = 3
const ErrNone = 4
const ErrText = 5
const ErrTaken = 6
const ErrQuota = 7
const ErrState = 8
const ErrFull = 9
const PageWords = 16
const MaxFrames = 40
const MaxValue = 1000000000

type IntResult struct {
	Code  int64
	Value int64
}
type IntsResult struct {
	Code int64
	List []int64
}

// frameCopy is an array and not a slice, so that handing one on never shares the arena's memory.
type frameCopy [PageWords]int64

// ArenaFault tells why words are no arena, or OK.
func ArenaFault(words []int64) int64 {
	if len(words)%PageWords != 0 || !allWithin(1, MaxFrames, framesIn(words)) {
		return ErrMany
	}
	if !areWords(words) {
		return ErrRange
	}
	return OK
}

// NewArena gives so many frames of zeros.
func NewArena(frames int64) IntsResult {
	// The bound comes first, so that the product cannot overflow.
	if !allWithin(1, MaxFrames, frames) {
		return IntsResult{Code: ErrMany}
	}
	return IntsResult{List: make([]int64, frames*PageWords)}
}

// FrameWords gives the words of one frame.
func FrameWords(words []int64, frame int64) IntsResult {
	if code := frameFault(words, frame); code != OK {
		return IntsResult{Code: code}
	}
	found := frameAt(words, frame)
	return IntsResult{List: found[:]}
}

// WriteFrame gives the arena with the words of page in the frame.
func WriteFrame(words []int64, frame int64, page []int64) IntsResult {
	if code := frameFault(words, frame); code != OK {
		return IntsResult{Code: code}
	}
	if len(page) != PageWords {
		return IntsResult{Code: ErrMany}
	}
	if !areWords(page) {
		return IntsResult{Code: ErrRange}
	}
	return IntsResult{List: withFrame(words, frame, frameCopy(page))}
}

// ZeroFrame gives the arena with zeros in the frame.
func ZeroFrame(words []int64, frame int64) IntsResult {
	if code := frameFault(words, frame); code != OK {
		return IntsResult{Code: code}
	}
	return IntsResult{List: withFrame(words, frame, frameCopy{})}
}

// IsZeroFrame tells whether there is such a frame and all of its words are 0.
func IsZeroFrame(words []int64, frame int64) bool {
	return frameFault(words, frame) == OK && frameAt(words, frame) == frameCopy{}
}

func allWithin(low, high int64, values ...int64) bool {
	for _, value := range values {
		if value < low || value > high {
			return false
		}
	}
	return true
}

func areWords(list []int64) bool {
	return allWithin(-MaxValue, MaxValue, list...)
}

func framesIn(words []int64) int64 {
	return int64(len(words) / PageWords)
}

func frameFault(words []int64, frame int64) int64 {
	if code := ArenaFault(words); code != OK {
		return code
	}
	if !allWithin(0, framesIn(words)-1, frame) {
		return ErrRange
	}
	return OK
}

func frameAt(words []int64, frame int64) frameCopy {
	return frameCopy(words[frame*PageWords:])
}

func withFrame(words []int64, frame int64, page frameCopy) []int64 {
	list := slices.Clone(words)
	layFrame(list, frame, page)
	return list
}

// layFrame changes the list, which is to be the caller's own.
func layFrame(list []int64, frame int64, page frameCopy) {
	copy(list[frame*PageWords:], page[:])
}
