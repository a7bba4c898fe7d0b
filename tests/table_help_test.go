package tests

import (
	"slices"
	"testing"

	"loop.example/g00729/impl"
)

func tableOf(tenant int64, frames ...int64) impl.Table {
	return impl.Table{Tenant: tenant, Frames: frames}
}

// bareTable has so many pages without a frame.
func bareTable(tenant int64, pages int) impl.Table {
	return tableOf(tenant, slices.Repeat([]int64{-1}, pages)...)
}

func copyTable(table impl.Table) impl.Table {
	return tableOf(table.Tenant, slices.Clone(table.Frames)...)
}

// withFrameOf is a copy of table with the frame of one page replaced.
func withFrameOf(table impl.Table, page int, frame int64) impl.Table {
	return tableOf(table.Tenant, withWord(table.Frames, page, frame)...)
}

// wideConfig has as many frames as there may be, all of the tenant 0.
func wideConfig() impl.Config {
	return configOf(impl.MaxFrames, 8, tenantOf(1, 0, 1, 2, 3, 4, 5, 6, 7), tenantOf(2))
}

// tableConfigs is configs without a fault: with tenants that have no frames, some, and all.
func tableConfigs() []impl.Config {
	return []impl.Config{
		testConfig(),
		wideConfig(),
		configOf(8, 4, tenantOf(2, 0, 2), tenantOf(1, 1)),
		configOf(1, 1, tenantOf(1, 0)),
		// The second tenant has a colour that no frame has.
		configOf(2, 8, tenantOf(1, 0, 1), tenantOf(1, 5)),
	}
}

// ownFrames counts the colours round and round, apart from the program's division.
func ownFrames(c impl.Config, tenant int64) []int64 {
	owners := slices.Repeat([]int64{-1}, int(c.Colours))
	for number, own := range c.Tenants {
		for _, colour := range own.Colours {
			owners[colour] = int64(number)
		}
	}
	return placesOf(wantedOwners(c.Frames, owners), tenant)
}

// rightTables is each table without a fault that a tenant may have.
func rightTables(c impl.Config, tenant int64) []impl.Table {
	own := ownFrames(c, tenant)
	tables := []impl.Table{tableOf(tenant)}
	lists := [][]int64{nil}
	for range own {
		var longer [][]int64
		for _, list := range lists {
			for _, frame := range append([]int64{-1}, own...) {
				if frame == -1 || !slices.Contains(list, frame) {
					longer = append(longer, append(slices.Clone(list), frame))
				}
			}
		}
		for _, list := range longer {
			tables = append(tables, tableOf(tenant, list...))
		}
		lists = longer
	}
	return tables
}

// testTables is each table without a fault of the testConfig.
func testTables() []impl.Table {
	var tables []impl.Table
	for tenant := range int64(len(testConfig().Tenants)) {
		tables = append(tables, rightTables(testConfig(), tenant)...)
	}
	return tables
}

// wantedTableFault asks one list behind the other, apart from the program.
func wantedTableFault(c impl.Config, table impl.Table) int64 {
	if code := wantedFault(c); code != impl.OK {
		return code
	}
	if table.Tenant < 0 || table.Tenant >= int64(len(c.Tenants)) {
		return impl.ErrNone
	}
	own := ownFrames(c, table.Tenant)
	if len(table.Frames) > len(own) || len(table.Frames) > 40 {
		return impl.ErrMany
	}
	counts := map[int64]int{}
	for _, frame := range table.Frames {
		if frame != -1 && !slices.Contains(own, frame) {
			return impl.ErrRange
		}
		counts[frame]++
	}
	for _, frame := range own {
		if counts[frame] > 1 {
			return impl.ErrTaken
		}
	}
	return impl.OK
}

// wantedFrameFor is the lowest frame of the tenant that no page has, apart from the program.
func wantedFrameFor(c impl.Config, table impl.Table) int64 {
	for _, frame := range ownFrames(c, table.Tenant) {
		if !slices.Contains(table.Frames, frame) {
			return frame
		}
	}
	return greatest
}

func equalTables(a, b impl.Table) bool {
	return a.Tenant == b.Tenant && slices.Equal(a.Frames, b.Frames)
}

// checkTable wants OK and just this table.
func checkTable(t *testing.T, name string, got impl.TableResult, wanted impl.Table) {
	t.Helper()
	if got.Code != impl.OK || !equalTables(got.Table, wanted) {
		t.Errorf("%s: %v, wanted the table %v", name, got, wanted)
	}
}

// checkNoTable wants this code and nothing beside it.
func checkNoTable(t *testing.T, name string, got impl.TableResult, code int64) {
	t.Helper()
	if got.Code != code || got.Table.Tenant != 0 || len(got.Table.Frames) != 0 {
		t.Errorf("%s: %v, wanted the code %d alone", name, got, code)
	}
}

// checkRightTable wants no fault, and an answer of each function where it is asked what it can answer.
func checkRightTable(t *testing.T, name string, c impl.Config, table impl.Table) {
	t.Helper()
	if code := impl.TableFault(c, table); code != impl.OK {
		t.Errorf("%s: fault %d of %v in %v", name, code, table, c)
	}
	words, own := testArena(int(c.Frames)), make([]int64, 16*len(table.Frames))
	checkList(t, name+", GatherWords", impl.GatherWords(c, table, words), wantedGathered(table, words))
	checkList(t, name+", ScatterWords", impl.ScatterWords(c, table, words, own), wantedScattered(table, words, own))
	for page, frame := range table.Frames {
		if frame == -1 {
			checkTable(t, name+", GrantPage", impl.GrantPage(c, table, int64(page)), withFrameOf(table, page, wantedFrameFor(c, table)))
		} else {
			checkTable(t, name+", RevokePage", impl.RevokePage(c, table, int64(page)), withFrameOf(table, page, -1))
		}
	}
}

// checkFaultyTable wants this code of TableFault, and of each function that asks it, whatever else it is asked.
func checkFaultyTable(t *testing.T, name string, c impl.Config, table impl.Table, code int64) {
	t.Helper()
	if got := impl.TableFault(c, table); got != code {
		t.Errorf("%s: fault %d, wanted %d, of %v in %v", name, got, code, table, c)
	}
	for _, number := range []int64{0, 1, 2, 16, 40, 639, 640, -1, greatest, least} {
		checkNoTable(t, numbered(name+", GrantPage", number), impl.GrantPage(c, table, number), code)
		checkNoTable(t, numbered(name+", RevokePage", number), impl.RevokePage(c, table, number), code)
		checkNoValue(t, numbered(name+", Translate", number), impl.Translate(c, table, number), code)
	}
	for _, words := range [][]int64{nil, make([]int64, 16*min(max(c.Frames, 1), 40)), make([]int64, 15), make([]int64, 32), {impl.MaxValue + 1}, make([]int64, 656)} {
		checkCode(t, name+", GatherWords", impl.GatherWords(c, table, words), code)
		for _, own := range [][]int64{nil, make([]int64, 16*len(table.Frames)), {greatest}} {
			checkCode(t, name+", ScatterWords", impl.ScatterWords(c, table, words, own), code)
		}
	}
}

// checkTableFault wants what is worked out apart from the program.
func checkTableFault(t *testing.T, name string, c impl.Config, table impl.Table) {
	t.Helper()
	if code := wantedTableFault(c, table); code != impl.OK {
		checkFaultyTable(t, name, c, table, code)
	} else {
		checkRightTable(t, name, c, table)
	}
}

// wantedGathered is the words of the pages, laid word by word, apart from the program.
func wantedGathered(table impl.Table, words []int64) []int64 {
	var own []int64
	for _, frame := range table.Frames {
		for i := range int64(16) {
			word := int64(0)
			if frame != -1 {
				word = words[16*frame+i]
			}
			own = append(own, word)
		}
	}
	return own
}

// wantedScattered is the arena with the words of own laid word by word, apart from the program.
func wantedScattered(table impl.Table, words, own []int64) []int64 {
	list := slices.Clone(words)
	for at, word := range own {
		if frame := table.Frames[at/16]; frame != -1 {
			list[16*frame+int64(at%16)] = word
		}
	}
	return list
}
