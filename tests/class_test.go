package tests

import (
	"slices"
	"testing"

	"loop.example/g00729/impl"
)

func TestNumbersOfClassesAndKindsAreThoseOfTheDocument(t *testing.T) {
	if impl.MaxClass != 3 || impl.MaxSmall != 8 || impl.MaxRun != 4 || impl.MaxSize != 64 {
		t.Error("bounds", impl.MaxClass, impl.MaxSmall, impl.MaxRun, impl.MaxSize)
	}
	got := []int64{impl.OpAlloc, impl.OpZero, impl.OpFree, impl.OpGrow, impl.OpRead, impl.OpWrite, impl.OpSize, impl.OpStats}
	if !slices.Equal(got, []int64{1, 2, 3, 4, 5, 6, 7, 8}) {
		t.Error("kinds", got)
	}
}

func TestP4TheExamplesOfChapter3(t *testing.T) {
	checkValue(t, "ClassOf 3", impl.ClassOf(3), 2)
	checkValue(t, "SlotsOf 3", impl.SlotsOf(3), 2)
	checkValue(t, "PagesOf 17", impl.PagesOf(17), 2)
}

func TestP4TheClassOfEachSize(t *testing.T) {
	for i, class := range []int64{0, 1, 2, 2, 3, 3, 3, 3} {
		size := int64(i + 1)
		checkValue(t, numbered("ClassOf", size), impl.ClassOf(size), class)
	}
}

func TestP4TheClassOfASizeIsTheLowestOneThatHoldsIt(t *testing.T) {
	for size := int64(1); size <= impl.MaxSmall; size++ {
		class := impl.ClassOf(size).Value
		if words := impl.SizeOf(class); words.Code != impl.OK || words.Value < size {
			t.Errorf("the size %d is of the class %d, whose blocks are %v", size, class, words)
		}
		for lower := range class {
			if words := impl.SizeOf(lower); words.Code != impl.OK || words.Value >= size {
				t.Errorf("the size %d is of the class %d, and the blocks of the class %d are %v", size, class, lower, words)
			}
		}
	}
}

func TestP4TheClassOfABlockIsItsOwn(t *testing.T) {
	for class := range int64(impl.MaxClass + 1) {
		words := impl.SizeOf(class).Value
		checkValue(t, numbered("ClassOf the words of the class", class), impl.ClassOf(words), class)
		if class < impl.MaxClass {
			checkValue(t, numbered("ClassOf one word more than the class", class), impl.ClassOf(words+1), class+1)
		}
	}
	checkValue(t, "SizeOf the greatest class", impl.SizeOf(impl.MaxClass), impl.MaxSmall)
}

func TestP4TheBlocksOfEachClassFillAPage(t *testing.T) {
	sizes, slots := []int64{1, 2, 4, 8}, []int64{16, 8, 4, 2}
	for class := range int64(impl.MaxClass + 1) {
		checkValue(t, numbered("SizeOf", class), impl.SizeOf(class), sizes[class])
		checkValue(t, numbered("SlotsOf", class), impl.SlotsOf(class), slots[class])
		if words := impl.SizeOf(class).Value * impl.SlotsOf(class).Value; words != impl.PageWords {
			t.Errorf("the blocks of the class %d have %d words on a page", class, words)
		}
	}
}

func TestP4SoManyPagesHoldTheWordsAndOneFewerDoesNot(t *testing.T) {
	// The words are laid one by one, apart from the program's division.
	pages, room := int64(0), int64(0)
	for size := int64(1); size <= impl.MaxSize; size++ {
		if room == 0 {
			pages, room = pages+1, impl.PageWords
		}
		room--
		if size <= impl.MaxSmall {
			continue
		}
		got := impl.PagesOf(size)
		checkValue(t, numbered("PagesOf", size), got, pages)
		if got.Value*impl.PageWords < size || (got.Value-1)*impl.PageWords >= size {
			t.Errorf("%d words are on %d pages", size, got.Value)
		}
	}
	if pages != impl.MaxRun {
		t.Errorf("MaxSize words are on %d pages", pages)
	}
}

func TestP4PagesAtTheirBounds(t *testing.T) {
	for _, made := range []struct{ size, pages int64 }{
		{impl.MaxSmall + 1, 1}, {15, 1}, {impl.PageWords, 1}, {impl.PageWords + 1, 2}, {32, 2}, {33, 3}, {48, 3}, {49, 4}, {63, 4}, {impl.MaxSize, impl.MaxRun},
	} {
		checkValue(t, numbered("PagesOf", made.size), impl.PagesOf(made.size), made.pages)
	}
	checkNoValue(t, "PagesOf a small size", impl.PagesOf(impl.MaxSmall), impl.ErrRange)
	checkNoValue(t, "PagesOf a size that is too great", impl.PagesOf(impl.MaxSize+1), impl.ErrRange)
}

func TestP4EachSizeIsOfAClassOrTakesPages(t *testing.T) {
	for size := int64(-70); size <= 200; size++ {
		class, pages := impl.ClassOf(size).Code == impl.OK, impl.PagesOf(size).Code == impl.OK
		if class && pages || (class || pages) != (size >= 1 && size <= impl.MaxSize) {
			t.Errorf("the size %d: of a class %v, on pages %v", size, class, pages)
		}
	}
}

func TestP4TheStepsOfEachKind(t *testing.T) {
	for _, made := range []struct{ kind, steps int64 }{
		{impl.OpAlloc, 3}, {impl.OpZero, 4}, {impl.OpFree, 2}, {impl.OpGrow, 5}, {impl.OpRead, 2}, {impl.OpWrite, 2}, {impl.OpSize, 1}, {impl.OpStats, 1},
	} {
		checkValue(t, numbered("StepsOf", made.kind), impl.StepsOf(made.kind), made.steps)
	}
	for _, kind := range []int64{0, -1, impl.OpStats + 1, greatest, least} {
		checkNoValue(t, numbered("StepsOf", kind), impl.StepsOf(kind), impl.ErrRange)
	}
}

func TestP1ChapterThreeAnswersJustWithinItsBounds(t *testing.T) {
	for _, made := range classCalls() {
		for number := made.low; number <= made.high; number++ {
			if got := made.call(number); got.Code != impl.OK {
				t.Errorf("%s: code %d", numbered(made.name, number), got.Code)
			}
		}
		for _, number := range wrongNumbers(made.low, made.high) {
			checkNoValue(t, numbered(made.name, number), made.call(number), impl.ErrRange)
		}
	}
}

func TestP1NothingOfASizeOrAKindIsKept(t *testing.T) {
	numbers := append([]int64{0, 1, 2, 3, 4, 5, 8, 9, 16, 17, 64, 65, -1}, greatest, least)
	for _, made := range classCalls() {
		for _, number := range numbers {
			wanted := made.call(number)
			for _, between := range classCalls() {
				for _, other := range numbers {
					between.call(other)
				}
			}
			if got := made.call(number); got != wanted {
				t.Errorf("%s: %v, then %v", numbered(made.name, number), wanted, got)
			}
		}
	}
}
