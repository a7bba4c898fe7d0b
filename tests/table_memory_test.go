package tests

import (
	"slices"
	"testing"

	"loop.example/g00729/impl"
)

// tableGiven is all that a call of this chapter may be given.
type tableGiven struct {
	c      impl.Config
	table  impl.Table
	words  []int64
	own    []int64
	number int64
}

// roomyGiven is a copy that has more memory behind each of its lists, which must stay, too.
func roomyGiven(given tableGiven) tableGiven {
	return tableGiven{roomyConfig(given.c), impl.Table{Tenant: given.table.Tenant, Frames: roomy(given.table.Frames)}, roomy(given.words), roomy(given.own), given.number}
}

// checkKeptGiven wants the roomyGiven of before as it was made, and the memory behind its lists, too.
func checkKeptGiven(t *testing.T, name string, given, before tableGiven) {
	t.Helper()
	checkKeptConfig(t, name, given.c, before.c)
	checkKept(t, name+", the frames", given.table.Frames, before.table.Frames)
	checkKept(t, name+", the arena", given.words, before.words)
	checkKept(t, name+", own", given.own, before.own)
}

// spoilGiven overwrites all that the memory of its lists holds.
func spoilGiven(given tableGiven) {
	for i := range given.c.Tenants {
		spoil(given.c.Tenants[i].Colours)
		given.c.Tenants[i] = impl.TenantConfig{}
	}
	spoil(given.table.Frames)
	spoil(given.words)
	spoil(given.own)
}

type tableCall struct {
	name string
	call func(given tableGiven) impl.IntsResult
}

// framesOf shares the memory of the table.
func framesOf(got impl.TableResult) impl.IntsResult {
	return impl.IntsResult{Code: got.Code, List: got.Table.Frames}
}

func tableCalls() []tableCall {
	return []tableCall{
		{"TableFault", func(given tableGiven) impl.IntsResult {
			return impl.IntsResult{Code: impl.TableFault(given.c, given.table)}
		}},
		{"GrantPage", func(given tableGiven) impl.IntsResult {
			return framesOf(impl.GrantPage(given.c, given.table, given.number))
		}},
		{"RevokePage", func(given tableGiven) impl.IntsResult {
			return framesOf(impl.RevokePage(given.c, given.table, given.number))
		}},
		{"Translate", func(given tableGiven) impl.IntsResult {
			return asList(impl.Translate(given.c, given.table, given.number))
		}},
		{"GatherWords", func(given tableGiven) impl.IntsResult {
			return impl.GatherWords(given.c, given.table, given.words)
		}},
		{"ScatterWords", func(given tableGiven) impl.IntsResult {
			return impl.ScatterWords(given.c, given.table, given.words, given.own)
		}},
		{"SameTables", func(given tableGiven) impl.IntsResult {
			same := impl.SameTables(given.table, tableOf(0, 6, -1, 0, 9)) && impl.SameTables(given.table, given.table)
			return impl.IntsResult{List: []int64{map[bool]int64{true: 1}[same]}}
		}},
	}
}

// manyGiven has right tables and faulty ones, arenas and words that fit and that do not.
func manyGiven() []tableGiven {
	var all []tableGiven
	tables := append(faultyTables(), tableOf(0), tableOf(1), tableOf(0, 6, -1, 0, 9), tableOf(0, 9, 3), bareTable(0, 4), tableOf(2, 7, 1, 5), tableOf(2, -1, 5))
	for _, c := range []impl.Config{testConfig(), wideConfig(), {}, configOf(5, 4, tenantOf(1, 0, 3), tenantOf(1, 2, 3))} {
		for _, table := range tables {
			for _, words := range [][]int64{testArena(10), testArena(40), nil, withWord(testArena(10), 7, greatest)} {
				for _, own := range [][]int64{ownWords(table), nil, withWord(make([]int64, max(1, 16*len(table.Frames))), 0, least)} {
					for _, number := range []int64{0, 1, 2, 20, 40, -1, greatest} {
						all = append(all, tableGiven{c, table, words, own, number})
					}
				}
			}
		}
	}
	return all
}

func forEachTableCall(do func(made tableCall, given tableGiven)) {
	for _, given := range manyGiven() {
		for _, made := range tableCalls() {
			do(made, given)
		}
	}
}

func checkInts(t *testing.T, name string, got, wanted impl.IntsResult) {
	t.Helper()
	if got.Code != wanted.Code || !slices.Equal(got.List, wanted.List) {
		t.Errorf("%s:\ngot    %v\nwanted %v", name, got, wanted)
	}
}

func TestP1ATableStays(t *testing.T) {
	forEachTableCall(func(made tableCall, before tableGiven) {
		given := roomyGiven(before)
		made.call(given)
		checkKeptGiven(t, made.name, given, before)
	})
	a, b := roomyGiven(tableGiven{table: tableOf(0, 3, 1, 2)}), roomyGiven(tableGiven{table: tableOf(0, 3, 2, 1)})
	impl.SameTables(a.table, b.table)
	checkKept(t, "SameTables, the first table", a.table.Frames, []int64{3, 1, 2})
	checkKept(t, "SameTables, the second table", b.table.Frames, []int64{3, 2, 1})
}

func TestP1WhatIsAnsweredOfATableIsNewMemory(t *testing.T) {
	answered := map[string]int{}
	forEachTableCall(func(made tableCall, before tableGiven) {
		given := roomyGiven(before)
		first, second := made.call(given), made.call(given)
		if len(first.List) == 0 {
			return
		}
		answered[made.name]++
		wanted := impl.IntsResult{Code: second.Code, List: slices.Clone(second.List)}

		spoil(first.List)
		checkKeptGiven(t, made.name+", its answer overwritten", given, before)
		checkInts(t, made.name+", the other answer overwritten", second, wanted)

		spoilGiven(given)
		checkInts(t, made.name+", its arguments overwritten", second, wanted)
	})
	for _, name := range []string{"GrantPage", "RevokePage", "GatherWords", "ScatterWords"} {
		if answered[name] < 50 {
			t.Errorf("%s answered just so many lists: %d", name, answered[name])
		}
	}
}

func TestP1ListsOfATableThatShareMemoryAreTakenApart(t *testing.T) {
	c := configOf(2, 1, tenantOf(1, 0))
	shared := append([]int64{1, 0}, make([]int64, 30)...)
	shared[5], shared[20] = 77, -88
	before := slices.Clone(shared)
	table := tableOf(0, shared[:2]...)
	swapped := slices.Concat(before[16:], before[:16])
	checkList(t, "own is the arena", impl.ScatterWords(c, table, shared, shared), swapped)
	checkList(t, "the frames are a part of the arena", impl.GatherWords(c, table, shared), swapped)
	checkTable(t, "revoked", impl.RevokePage(c, table, 0), tableOf(0, -1, 0))
	if !slices.Equal(shared, before) {
		t.Error("what is shared was changed")
	}
}

func TestP1NothingOfATableIsKept(t *testing.T) {
	others := []tableGiven{
		{testConfig(), bareTable(0, 4), testArena(10), make([]int64, 64), 2},
		{wideConfig(), tableOf(0, 0, 1, 2, 3), testArena(40), make([]int64, 64), 1},
		{impl.Config{}, tableOf(0, 0, 0), nil, nil, -1},
	}
	forEachTableCall(func(made tableCall, given tableGiven) {
		wanted := made.call(given)
		for _, other := range others {
			for _, between := range tableCalls() {
				between.call(other)
			}
		}
		checkInts(t, made.name+", once more", made.call(given), wanted)
	})
}

func TestP1NilAndEmptyListsOfATableAreTheSame(t *testing.T) {
	forEachTableCall(func(made tableCall, given tableGiven) {
		empty := given
		for _, list := range []*[]int64{&empty.table.Frames, &empty.words, &empty.own} {
			if len(*list) == 0 {
				*list = make([]int64, 0, 3)
			}
		}
		checkInts(t, made.name+", empty lists", made.call(empty), made.call(given))
	})
}

func TestP1WithACodeATableIsZero(t *testing.T) {
	codes := map[int64]bool{}
	forEachTableCall(func(made tableCall, given tableGiven) {
		got := made.call(given)
		codes[got.Code] = true
		switch made.name {
		case "GrantPage":
			checkTenant(t, made.name, impl.GrantPage(given.c, given.table, given.number), given.table.Tenant)
		case "RevokePage":
			checkTenant(t, made.name, impl.RevokePage(given.c, given.table, given.number), given.table.Tenant)
		case "Translate":
			if got.Code != impl.OK && got.List[0] != 0 {
				t.Errorf("Translate: the code %d, and the value %d", got.Code, got.List[0])
			}
		default:
			if got.Code != impl.OK && len(got.List) != 0 {
				t.Errorf("%s: the code %d, and a list", made.name, got.Code)
			}
		}
	})
	for _, code := range []int64{impl.OK, impl.ErrForm, impl.ErrMany, impl.ErrRange, impl.ErrNone, impl.ErrTaken, impl.ErrState} {
		if !codes[code] {
			t.Error("nothing told the code", code)
		}
	}
}

// checkTenant wants the tenant where there is no code, and the zero value where there is one.
func checkTenant(t *testing.T, name string, got impl.TableResult, tenant int64) {
	t.Helper()
	if got.Code != impl.OK {
		checkNoTable(t, name, got, got.Code)
	} else if got.Table.Tenant != tenant {
		t.Errorf("%s: the tenant %d, wanted %d", name, got.Table.Tenant, tenant)
	}
}
