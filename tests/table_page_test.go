package tests

import (
	"slices"
	"testing"

	"loop.example/g00729/impl"
)

func TestP8GrantPageOfTheExample(t *testing.T) {
	c := testConfig()
	cases := []struct {
		name  string
		table impl.Table
		page  int64
		frame int64
	}{
		{"none is taken", tableOf(0, -1, -1, -1, -1), 2, 0},
		{"none is taken, of another tenant", tableOf(2, -1, -1, -1), 1, 1},
		{"the lowest one is taken", tableOf(0, -1, 0, -1), 0, 3},
		{"the lowest ones are taken", tableOf(0, 3, 0, -1), 2, 6},
		{"the lowest ones are taken, and one page is left", tableOf(0, 3, 6, 0, -1), 3, 9},
		{"one in between is free", tableOf(0, 6, -1, 0, 9), 1, 3},
		{"two in between are free", tableOf(0, 9, -1, 0, -1), 3, 3},
		{"the greatest one is taken", tableOf(2, -1, 7, -1), 2, 1},
		{"one page", tableOf(0, -1), 0, 0},
	}
	for _, made := range cases {
		checkTable(t, made.name, impl.GrantPage(c, made.table, made.page), withFrameOf(made.table, int(made.page), made.frame))
	}
}

func TestP8EachPageOfRightTables(t *testing.T) {
	for _, table := range testTables() {
		for page, frame := range table.Frames {
			granted, revoked := impl.GrantPage(testConfig(), table, int64(page)), impl.RevokePage(testConfig(), table, int64(page))
			if frame == -1 {
				checkTable(t, "granted", granted, withFrameOf(table, page, wantedFrameFor(testConfig(), table)))
				checkNoTable(t, "revoked, without a frame", revoked, impl.ErrState)
			} else {
				checkNoTable(t, "granted, with a frame", granted, impl.ErrTaken)
				checkTable(t, "revoked", revoked, withFrameOf(table, page, -1))
			}
		}
		if t.Failed() {
			t.Fatalf("the table is %v", table)
		}
	}
}

func TestP1PagesThatAreNone(t *testing.T) {
	for _, c := range tableConfigs() {
		for tenant := range int64(len(c.Tenants)) {
			own := ownFrames(c, tenant)
			for _, table := range []impl.Table{tableOf(tenant), bareTable(tenant, len(own)), bareTable(tenant, len(own)/2), tableOf(tenant, own...), tableOf(tenant, own[:len(own)/2]...)} {
				count := int64(len(table.Frames))
				for _, page := range append(wrongNumbers(0, count-1), count, count+1, int64(len(own)), -1) {
					if page >= 0 && page < count {
						continue
					}
					checkNoTable(t, numbered("GrantPage", page), impl.GrantPage(c, table, page), impl.ErrRange)
					checkNoTable(t, numbered("RevokePage", page), impl.RevokePage(c, table, page), impl.ErrRange)
				}
			}
		}
	}
}

// allOrders is every order of the numbers below count.
func allOrders(count int) [][]int {
	orders := [][]int{nil}
	for number := range count {
		var longer [][]int
		for _, order := range orders {
			for at := range number + 1 {
				longer = append(longer, slices.Insert(slices.Clone(order), at, number))
			}
		}
		orders = longer
	}
	return orders
}

func TestP8PagesAreGrantedInAnyOrder(t *testing.T) {
	c := configOf(40, 8, tenantOf(1, 3), tenantOf(1, 0, 7))
	frames := []int64{3, 11, 19, 27, 35}
	for _, order := range allOrders(len(frames)) {
		table := bareTable(0, len(frames))
		for turn, page := range order {
			got := impl.GrantPage(c, table, int64(page))
			table = withFrameOf(table, page, frames[turn])
			checkTable(t, "granted", got, table)
		}
		for _, page := range order {
			got := impl.RevokePage(c, table, int64(page))
			// The page that was granted first has the lowest frame, and is the first one to lose it.
			checkTable(t, "granted again", impl.GrantPage(c, got.Table, int64(page)), withFrameOf(table, page, frames[0]))
			table = withFrameOf(table, page, -1)
			checkTable(t, "revoked", got, table)
		}
		if t.Failed() {
			t.Fatalf("the order is %v", order)
		}
	}
}

func TestP8AsManyPagesAsThereIsRoomFor(t *testing.T) {
	for _, c := range tableConfigs() {
		for tenant := range int64(len(c.Tenants)) {
			own := ownFrames(c, tenant)
			table := bareTable(tenant, len(own))
			for page := range own {
				got := impl.GrantPage(c, table, int64(page))
				wanted := withFrameOf(table, page, own[page])
				checkTable(t, numbered("the page", int64(page)), got, wanted)
				table = wanted
			}
			checkTable(t, "the last one behind the first one", impl.TableResult{Table: table}, tableOf(tenant, own...))

			backward := bareTable(tenant, len(own))
			for turn := range own {
				backward = impl.GrantPage(c, backward, int64(len(own)-1-turn)).Table
			}
			slices.Reverse(table.Frames)
			checkTable(t, "the first one behind the last one", impl.TableResult{Table: backward}, table)
		}
	}
}

func TestP8OnePageThatIsLeftGetsTheOneFrameThatIsLeft(t *testing.T) {
	full := tableOf(0, ownFrames(wideConfig(), 0)...)
	for page := range full.Frames {
		revoked := impl.RevokePage(wideConfig(), full, int64(page))
		checkTable(t, numbered("revoked", int64(page)), revoked, withFrameOf(full, page, -1))
		checkTable(t, numbered("granted again", int64(page)), impl.GrantPage(wideConfig(), revoked.Table, int64(page)), full)
	}
}

func TestP8APageThatIsGrantedAgainHasTheLowestFrameThatIsFree(t *testing.T) {
	c := testConfig()
	table := tableOf(0, 9, 0, 6)
	revoked := impl.RevokePage(c, table, 0)
	checkTable(t, "revoked", revoked, tableOf(0, -1, 0, 6))
	checkTable(t, "granted again", impl.GrantPage(c, revoked.Table, 0), tableOf(0, 3, 0, 6))
	twice := impl.RevokePage(c, revoked.Table, 1)
	checkTable(t, "two are revoked", twice, tableOf(0, -1, -1, 6))
	checkTable(t, "the first one is granted again", impl.GrantPage(c, twice.Table, 0), tableOf(0, 0, -1, 6))
	checkTable(t, "the second one is granted again", impl.GrantPage(c, twice.Table, 1), tableOf(0, -1, 0, 6))
	checkNoTable(t, "revoked once more", impl.RevokePage(c, revoked.Table, 0), impl.ErrState)
	checkNoTable(t, "granted once more", impl.GrantPage(c, table, 0), impl.ErrTaken)
}

// TestP8WhatIsGrantedIsOfItsTenantAlone holds the frame against the chapter of colours, and not against the list that it came from.
func TestP8WhatIsGrantedIsOfItsTenantAlone(t *testing.T) {
	for _, table := range testTables() {
		for page, frame := range table.Frames {
			if frame != -1 {
				continue
			}
			granted := impl.GrantPage(testConfig(), table, int64(page)).Table
			if code := impl.TableFault(testConfig(), granted); code != impl.OK {
				t.Fatalf("fault %d of %v", code, granted)
			}
			checkValue(t, "OwnerOf", impl.OwnerOf(testConfig(), granted.Frames[page]), table.Tenant)
			if len(placesOf(granted.Frames, granted.Frames[page])) != 1 {
				t.Errorf("another page has the frame, too: %v", granted)
			}
		}
	}
}
