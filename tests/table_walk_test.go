package tests

import (
	"slices"
	"testing"

	"loop.example/g00729/impl"
)

// tableWalker has all tenants of a config in one arena: it grants, revokes and lays words by numbers that a short rule tells.
type tableWalker struct {
	*walker
	c      impl.Config
	tables []impl.Table
	words  []int64
	turns  map[string]int
}

func newTableWalker(c impl.Config, number uint32) *tableWalker {
	w := &tableWalker{walker: newWalker(0, number), c: c, words: testArena(int(c.Frames)), turns: map[string]int{}}
	for tenant := range int64(len(c.Tenants)) {
		w.tables = append(w.tables, bareTable(tenant, w.next(len(ownFrames(c, tenant))+1)))
	}
	return w
}

// turn grants or revokes one page.
func (w *tableWalker) turn(t *testing.T, tenant int) {
	t.Helper()
	table := w.tables[tenant]
	if len(table.Frames) == 0 {
		checkNoTable(t, "no pages", impl.GrantPage(w.c, table, 0), impl.ErrRange)
		return
	}
	page := w.next(len(table.Frames))
	granted, revoked := impl.GrantPage(w.c, table, int64(page)), impl.RevokePage(w.c, table, int64(page))
	if table.Frames[page] == -1 {
		checkTable(t, "granted", granted, withFrameOf(table, page, wantedFrameFor(w.c, table)))
		checkNoTable(t, "revoked, without a frame", revoked, impl.ErrState)
		w.tables[tenant] = granted.Table
		w.turns["granted"]++
		return
	}
	checkNoTable(t, "granted, with a frame", granted, impl.ErrTaken)
	checkTable(t, "revoked", revoked, withFrameOf(table, page, -1))
	w.tables[tenant] = revoked.Table
	w.turns["revoked"]++
}

// lay lays other words in the frames of a tenant.
func (w *tableWalker) lay(t *testing.T, tenant int) {
	t.Helper()
	table := w.tables[tenant]
	own := make([]int64, 16*len(table.Frames))
	for at := range own {
		own[at] = int64(w.next(2000)) - 1000
		if table.Frames[at/16] == -1 {
			own[at] = greatest
		}
	}
	checkLaid(t, "laid", w.c, table, w.words, own)
	wanted := w.gathered(tenant)
	w.words = impl.ScatterWords(w.c, table, w.words, own).List
	for other, words := range w.gathered(tenant) {
		if !slices.Equal(words, wanted[other]) {
			t.Fatalf("the words of the tenant %d were changed by the tenant %d", other, tenant)
		}
	}
	w.turns["laid"]++
}

// gathered is the words of each tenant but this one.
func (w *tableWalker) gathered(but int) map[int][]int64 {
	all := map[int][]int64{}
	for tenant, table := range w.tables {
		if tenant != but {
			all[tenant] = impl.GatherWords(w.c, table, w.words).List
		}
	}
	return all
}

// check wants tables without a fault, in which no frame stands twice and each one is of its tenant.
func (w *tableWalker) check(t *testing.T) {
	t.Helper()
	var held []int64
	for _, table := range w.tables {
		if code := impl.TableFault(w.c, table); code != impl.OK {
			t.Fatalf("fault %d of %v", code, table)
		}
		for _, frame := range table.Frames {
			if frame != -1 {
				held = append(held, frame)
				checkValue(t, "OwnerOf", impl.OwnerOf(w.c, frame), table.Tenant)
			}
		}
	}
	count := len(held)
	slices.Sort(held)
	if len(slices.Compact(held)) != count {
		t.Fatalf("a frame is of two pages: %v", w.tables)
	}
}

func TestP8ManyPagesAreGrantedAndRevoked(t *testing.T) {
	turns := map[string]int{}
	configs := append(tableConfigs(),
		configOf(40, 8, tenantOf(1, 0, 4, 7), tenantOf(1, 1, 5), tenantOf(1, 2)),
		configOf(37, 3, tenantOf(1, 2), tenantOf(1, 0), tenantOf(1, 1)),
	)
	for _, c := range configs {
		for number := range uint32(4) {
			w := newTableWalker(c, number)
			for range 150 {
				tenant := w.next(len(w.tables))
				if w.next(3) == 0 {
					w.lay(t, tenant)
				} else {
					w.turn(t, tenant)
				}
				w.check(t)
				if t.Failed() {
					t.Fatalf("the tables are %v in %v", w.tables, c)
				}
			}
			for name, count := range w.turns {
				turns[name] += count
			}
		}
	}
	if turns["granted"] < 300 || turns["revoked"] < 300 || turns["laid"] < 300 {
		t.Error("the turns are too few:", turns)
	}
}
