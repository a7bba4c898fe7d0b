package tests

import "loop.example/g00729/impl"

type classCall struct {
	name      string
	call      func(number int64) impl.IntResult
	low, high int64
}

// classCalls are the functions of chapter 3, each with the least and the greatest number that it answers without a code.
func classCalls() []classCall {
	return []classCall{
		{"ClassOf", impl.ClassOf, 1, 8},
		{"SizeOf", impl.SizeOf, 0, 3},
		{"SlotsOf", impl.SlotsOf, 0, 3},
		{"PagesOf", impl.PagesOf, 9, 64},
		{"StepsOf", impl.StepsOf, 1, 8},
	}
}

// farOutside is numbers that come to be low to high where they are made narrower or wrap around; the first ones wrap where a page's words are added.
func farOutside(low, high int64) []int64 {
	list := []int64{greatest - 7, greatest - 14, greatest - 15, greatest - 16, least + 15, least + 16}
	for number := low; number <= high; number++ {
		for _, bit := range []int{8, 16, 31, 32, 60, 61, 62, 63} {
			list = append(list, number+1<<bit, number-1<<bit)
		}
	}
	return list
}

// wrongNumbers are numbers that are not low to high: all near the bounds, and ones that are far away.
func wrongNumbers(low, high int64) []int64 {
	list := append(outside(low, high), farOutside(low, high)...)
	for away := int64(1); away <= 200; away++ {
		list = append(list, low-away, high+away)
	}
	return list
}
