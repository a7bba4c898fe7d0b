package tests

import (
	"slices"
	"testing"

	"loop.example/g00729/impl"
)

// checkSameTables wants this answer for both orders of the tables.
func checkSameTables(t *testing.T, name string, a, b impl.Table, wanted bool) {
	t.Helper()
	if impl.SameTables(a, b) != wanted || impl.SameTables(b, a) != wanted {
		t.Errorf("%s: %v and %v, wanted %v", name, a, b, wanted)
	}
}

// faultyTables is tables that have a fault in each config of tableConfigs.
func faultyTables() []impl.Table {
	return []impl.Table{
		tableOf(-1), tableOf(3, 0), tableOf(greatest, greatest, least), tableOf(least), tableOf(0, 0, 0), tableOf(0, -2), tableOf(0, 40), tableOf(2, 1, 1),
		tableOf(0, greatest), tableOf(0, least), tableOf(1, 4), bareTable(0, 41), tableOf(0, make([]int64, 41)...), bareTable(1, 100),
	}
}

func TestP1SameTablesOfEachTwo(t *testing.T) {
	all := append(faultyTables(), testTables()[:80]...)
	all = append(all, testTables()[250:]...)
	for i, a := range all {
		checkSameTables(t, "a table and itself", a, a, true)
		checkSameTables(t, "a table and its copy", a, copyTable(a), true)
		for _, b := range all[:i] {
			checkSameTables(t, "two tables", a, b, equalTables(a, b))
		}
	}
}

func TestP1SameTablesLooksAtEachField(t *testing.T) {
	for _, table := range append(faultyTables(), tableOf(0, 6, -1, 0, 9), tableOf(2, 7, 1, 5), bareTable(0, 3), tableOf(0, ownFrames(wideConfig(), 0)...)) {
		for _, away := range []int64{1, -1, 1 << 8, 1 << 32, -1 << 63} {
			other := copyTable(table)
			other.Tenant += away
			checkSameTables(t, "the tenant differs", table, other, false)
			for page, frame := range table.Frames {
				checkSameTables(t, "one frame differs", table, withFrameOf(table, page, frame+away), false)
			}
		}
		for page := range table.Frames {
			checkSameTables(t, "one page fewer", table, tableOf(table.Tenant, slices.Delete(slices.Clone(table.Frames), page, page+1)...), false)
			checkSameTables(t, "the first pages", table, tableOf(table.Tenant, table.Frames[:page]...), false)
		}
		checkSameTables(t, "one page more at the end", table, tableOf(table.Tenant, append(slices.Clone(table.Frames), -1)...), false)
		checkSameTables(t, "one page more at the beginning", table, tableOf(table.Tenant, append([]int64{-1}, table.Frames...)...), false)
	}
	checkSameTables(t, "another order", tableOf(0, 6, -1, 0, 9), tableOf(0, 9, 0, -1, 6), false)
	checkSameTables(t, "two in another order", tableOf(0, 0, 3), tableOf(0, 3, 0), false)
	checkSameTables(t, "a tenant that is the other one's frame", tableOf(0, 1), tableOf(1, 0), false)
	checkSameTables(t, "another tenant without pages", tableOf(0), tableOf(1), false)
	checkSameTables(t, "very many pages", bareTable(0, 5000), bareTable(0, 5000), true)
	checkSameTables(t, "one page more of very many", bareTable(0, 5000), bareTable(0, 5001), false)
}

func TestP1SameTablesOfNilAndEmptyLists(t *testing.T) {
	empty := [][]int64{nil, {}, make([]int64, 0, 9), make([]int64, 3)[:0]}
	for _, tenant := range []int64{0, 2, -1, greatest, least} {
		for _, a := range empty {
			for _, b := range empty {
				checkSameTables(t, "no pages", tableOf(tenant, a...), impl.Table{Tenant: tenant, Frames: b}, true)
			}
			for _, b := range [][]int64{{0}, {-1}, {0, 0}} {
				checkSameTables(t, "no pages and some", impl.Table{Tenant: tenant, Frames: a}, tableOf(tenant, b...), false)
			}
		}
	}
}
