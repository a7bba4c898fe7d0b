package tests

import (
	"testing"

	"loop.example/g00729/impl"
)

func TestP8PlacesByTheirNumbers(t *testing.T) {
	c := testConfig()
	table := tableOf(0, 6, -1, 0, 9)
	places := map[int64]int64{0: 96, 1: 97, 15: 111, 32: 0, 33: 1, 47: 15, 48: 144, 63: 159}
	for at, place := range places {
		checkValue(t, numbered("Translate", at), impl.Translate(c, table, at), place)
	}
	for _, at := range []int64{16, 17, 24, 31} {
		checkNoValue(t, numbered("of a page without a frame, Translate", at), impl.Translate(c, table, at), impl.ErrNone)
	}
	for _, at := range []int64{-1, -15, -16, -17, 64, 65, 80, 160, greatest, least} {
		checkNoValue(t, numbered("Translate", at), impl.Translate(c, table, at), impl.ErrRange)
	}
}

func TestP8EachPlaceOfRightTables(t *testing.T) {
	tables := append(testTables(), tableOf(2, 7, 1, 5))
	for _, table := range tables {
		at := int64(0)
		for _, frame := range table.Frames {
			for i := range int64(16) {
				got := impl.Translate(testConfig(), table, at)
				if frame == -1 {
					checkNoValue(t, numbered("Translate", at), got, impl.ErrNone)
				} else {
					checkValue(t, numbered("Translate", at), got, 16*frame+i)
				}
				at++
			}
		}
		for _, wrong := range []int64{-1, -16, at, at + 1, at + 15, at + 16, greatest, least, greatest - 15, least + 1, at + 1<<32, 1 << 60} {
			checkNoValue(t, numbered("Translate", wrong), impl.Translate(testConfig(), table, wrong), impl.ErrRange)
		}
		if t.Failed() {
			t.Fatalf("the table is %v", table)
		}
	}
}

func TestP1PlacesOfAllPagesThatThereMayBe(t *testing.T) {
	table := bareTable(0, impl.MaxPages)
	checkNoValue(t, "the first place", impl.Translate(wideConfig(), table, 0), impl.ErrNone)
	checkNoValue(t, "the last place", impl.Translate(wideConfig(), table, 639), impl.ErrNone)
	table = withFrameOf(withFrameOf(table, 39, 0), 0, 39)
	checkValue(t, "the first place", impl.Translate(wideConfig(), table, 0), 624)
	checkValue(t, "the last place", impl.Translate(wideConfig(), table, 639), 15)
	for _, at := range wrongNumbers(0, 639) {
		if at < 0 || at > 639 {
			checkNoValue(t, numbered("Translate", at), impl.Translate(wideConfig(), table, at), impl.ErrRange)
		}
	}
}

func TestP1ATableWithoutPagesHasNoPlaces(t *testing.T) {
	for tenant := range int64(3) {
		for _, frames := range [][]int64{nil, {}, make([]int64, 0, 5)} {
			for _, at := range []int64{0, 1, 15, 16, -1, greatest, least} {
				checkNoValue(t, numbered("Translate", at), impl.Translate(testConfig(), tableOf(tenant, frames...), at), impl.ErrRange)
			}
		}
	}
}
