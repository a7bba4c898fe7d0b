package tests

import (
	"slices"
	"testing"

	"loop.example/g00729/impl"
)

func TestNoFrameIsThatOfTheDocument(t *testing.T) {
	if impl.NoFrame != -1 {
		t.Error("NoFrame is", impl.NoFrame)
	}
}

func TestP1TableFaultIsThatOfTheConfig(t *testing.T) {
	tables := []impl.Table{
		tableOf(0), tableOf(0, 0), bareTable(0, 2), tableOf(0, 2, 2), tableOf(0, -2), bareTable(0, 41),
		tableOf(1, 3), tableOf(3), tableOf(-1, 1, 1), tableOf(greatest), tableOf(least, greatest),
	}
	faults := map[int64]bool{}
	for _, c := range append(manyConfigs(), configOf(41, 4, tenantOf(1, 0)), configOf(40, 9, tenantOf(1, 0)), configOf(40, 4, tenantOf(3, 0)), configOf(least, greatest, tenantOf(1, 0))) {
		code := wantedFault(c)
		if code == impl.OK {
			continue
		}
		faults[code] = true
		for _, table := range tables {
			checkFaultyTable(t, "a config with a fault", c, table, code)
		}
	}
	if len(faults) != 4 {
		t.Error("just these faults of a config:", faults)
	}
}

func TestP1TableFaultOfATenantThatIsNone(t *testing.T) {
	for count := range int64(impl.MaxTenants) {
		tenants := slices.Repeat([]impl.TenantConfig{tenantOf(1)}, int(count))
		c := configOf(9, 3, append(tenants, tenantOf(1, 0, 1, 2))...)
		for _, tenant := range wrongNumbers(0, count) {
			checkFaultyTable(t, numbered("the tenant", tenant), c, tableOf(tenant), impl.ErrNone)
		}
		for _, tenant := range []int64{-1, count + 1, count + 2, greatest, least} {
			for _, frames := range [][]int64{{0}, {-1}, {-1, -1}, {4, 4}, {-2}, {9}, {greatest, least}, make([]int64, 10), make([]int64, 41)} {
				checkFaultyTable(t, numbered("the tenant", tenant), c, tableOf(tenant, frames...), impl.ErrNone)
			}
		}
		checkRightTable(t, "the last tenant", c, tableOf(count, 8, -1, 0))
	}
}

func TestP8TableFaultCountsTheFrames(t *testing.T) {
	for _, c := range tableConfigs() {
		for tenant := range int64(len(c.Tenants)) {
			own := ownFrames(c, tenant)
			for count := range len(own) + 1 {
				checkRightTable(t, "bare pages", c, bareTable(tenant, count))
				checkRightTable(t, "the first frames", c, tableOf(tenant, own[:count]...))
			}
			for _, more := range []int{1, 2, 41, 100000} {
				count := len(own) + more
				checkFaultyTable(t, numbered("so many bare pages:", int64(count)), c, bareTable(tenant, count), impl.ErrMany)
			}
			checkFaultyTable(t, "all frames, and a bare page", c, tableOf(tenant, append(slices.Clone(own), -1)...), impl.ErrMany)
			checkFaultyTable(t, "a bare page, and all frames", c, tableOf(tenant, append([]int64{-1}, own...)...), impl.ErrMany)
		}
	}
}

// The room of a tenant is never greater than MaxPages, so that one page more than that is always one more than there is room for.
func TestP8TableFaultBoundsThePages(t *testing.T) {
	checkValue(t, "the greatest room", impl.RoomFor(wideConfig(), 0), impl.MaxPages)
	checkRightTable(t, "as many pages as there may be", wideConfig(), tableOf(0, ownFrames(wideConfig(), 0)...))
	checkRightTable(t, "as many bare pages as there may be", wideConfig(), bareTable(0, impl.MaxPages))
	for _, count := range []int{impl.MaxPages + 1, impl.MaxPages + 2, 1000} {
		checkFaultyTable(t, numbered("so many pages:", int64(count)), wideConfig(), bareTable(0, count), impl.ErrMany)
		checkFaultyTable(t, numbered("so many pages with frames:", int64(count)), wideConfig(), tableOf(0, make([]int64, count)...), impl.ErrMany)
	}
}

func TestP8ATenantWithoutColoursHasNoPages(t *testing.T) {
	c := testConfig()
	checkRightTable(t, "nil", c, impl.Table{Tenant: 1})
	checkRightTable(t, "an empty list", c, impl.Table{Tenant: 1, Frames: []int64{}})
	for _, frame := range []int64{-1, 0, 1, 2, 9, 10, -2, greatest, least} {
		checkFaultyTable(t, numbered("one page, with", frame), c, tableOf(1, frame), impl.ErrMany)
	}
}

func TestP8TableFaultOfFramesThatAreNotOfTheTenant(t *testing.T) {
	c := testConfig()
	for tenant, length := range map[int64]int{0: 4, 2: 3} {
		own := ownFrames(c, tenant)
		for count := 1; count <= length; count++ {
			for page := range count {
				for _, base := range []impl.Table{bareTable(tenant, count), tableOf(tenant, own[:count]...)} {
					for frame := int64(-20); frame < 60; frame++ {
						checkTableFault(t, numbered("the frame", frame), c, withFrameOf(base, page, frame))
						if frame != -1 && !slices.Contains(own, frame) {
							checkFaultyTable(t, numbered("the frame", frame), c, withFrameOf(base, page, frame), impl.ErrRange)
						}
					}
					for _, frame := range farOutside(0, 9) {
						checkFaultyTable(t, numbered("the frame", frame), c, withFrameOf(base, page, frame), impl.ErrRange)
					}
				}
			}
		}
	}
}

func TestP8FramesBehindTheLastOneAreNobodys(t *testing.T) {
	for frames := int64(1); frames <= impl.MaxFrames; frames++ {
		c := configOf(frames, 1, tenantOf(1, 0))
		checkRightTable(t, numbered("the last frame of", frames), c, tableOf(0, frames-1))
		for _, wrong := range []int64{frames, frames + 1, 40, 41, -2, greatest, least} {
			if wrong < frames && wrong >= 0 {
				continue
			}
			checkFaultyTable(t, numbered("the frame", wrong), c, tableOf(0, wrong), impl.ErrRange)
		}
	}
}

func TestP8TableFaultOfTwoPagesWithOneFrame(t *testing.T) {
	for _, base := range []impl.Table{tableOf(0, ownFrames(wideConfig(), 0)...), bareTable(0, impl.MaxPages)} {
		for _, first := range []int{0, 1, 2, 19, 38, 39} {
			for second := range base.Frames {
				for _, frame := range []int64{0, int64(first), 39} {
					table := withFrameOf(withFrameOf(base, first, frame), second, frame)
					if first == second {
						checkTableFault(t, "one page", wideConfig(), table)
					} else {
						checkFaultyTable(t, "two pages with one frame", wideConfig(), table, impl.ErrTaken)
					}
				}
			}
		}
	}
	for _, frames := range [][]int64{{0, 0}, {3, 3, -1, -1}, {-1, -1, 9, 9}, {6, -1, -1, 6}, {0, 3, 6, 0}, {9, 9, 9, 9}, {0, 0, 3, 3}} {
		checkFaultyTable(t, "two pages with one frame", testConfig(), tableOf(0, frames...), impl.ErrTaken)
	}
	for _, frames := range [][]int64{{-1, -1}, {0, -1, -1, 3}, {-1, -1, -1, -1}, {-1, 9, -1, 0}} {
		checkRightTable(t, "two pages without a frame", testConfig(), tableOf(0, frames...))
	}
}

func TestP1WhichCodeOfATableComesFirst(t *testing.T) {
	c := testConfig()
	cases := []struct {
		name  string
		table impl.Table
		code  int64
	}{
		{"too many, all wrong", tableOf(0, -2, -2, 5, 10, greatest), impl.ErrMany},
		{"too many, all alike", tableOf(0, 0, 0, 0, 0, 0), impl.ErrMany},
		{"too many, with a wrong one and two alike", tableOf(2, 1, 1, 2, -1), impl.ErrMany},
		{"two alike ahead of a wrong one", tableOf(0, 0, 0, 1), impl.ErrRange},
		{"two alike behind a wrong one", tableOf(0, 10, 3, 3), impl.ErrRange},
		{"two alike around a wrong one", tableOf(0, 3, -2, 3), impl.ErrRange},
		{"two wrong ones that are alike", tableOf(0, 5, 5), impl.ErrRange},
		{"two alike, the last one wrong", tableOf(0, 9, 9, -1, 2), impl.ErrRange},
		{"a tenant that is none, and too many", tableOf(3, make([]int64, 50)...), impl.ErrNone},
		{"a tenant that is none, and two alike", tableOf(-1, 0, 0), impl.ErrNone},
		{"two alike", tableOf(0, 9, -1, 9), impl.ErrTaken},
	}
	for _, made := range cases {
		checkFaultyTable(t, made.name, c, made.table, made.code)
	}
}

func TestP8TableFaultOfAllShortLists(t *testing.T) {
	told := map[int64]int{}
	lists := [][]int64{nil}
	for len(lists) < 2400 {
		var longer [][]int64
		for _, list := range lists {
			for tenant := int64(-1); tenant <= 3; tenant++ {
				table := tableOf(tenant, list...)
				wanted := wantedTableFault(testConfig(), table)
				if got := impl.TableFault(testConfig(), table); got != wanted {
					t.Fatalf("%v: fault %d, wanted %d", table, got, wanted)
				}
				told[wanted]++
			}
			for _, frame := range []int64{-2, -1, 0, 1, 5, 7, 9} {
				longer = append(longer, append(slices.Clone(list), frame))
			}
		}
		lists = longer
	}
	for _, code := range []int64{impl.OK, impl.ErrNone, impl.ErrMany, impl.ErrRange, impl.ErrTaken} {
		if told[code] == 0 {
			t.Error("nothing told the code", code)
		}
	}
}
