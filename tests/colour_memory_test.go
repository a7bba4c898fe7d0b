package tests

import (
	"reflect"
	"slices"
	"testing"

	"loop.example/g00729/impl"
)

// roomyConfig is a copy of c whose lists have more memory behind them, which must stay, too.
func roomyConfig(c impl.Config) impl.Config {
	whole := append(slices.Clone(c.Tenants), tenantOf(77, 78, 79))
	for i := range c.Tenants {
		whole[i].Colours = roomy(c.Tenants[i].Colours)
	}
	c.Tenants = whole[:len(c.Tenants)]
	return c
}

// checkKeptConfig wants the roomyConfig of before as it was made, and the memory behind its lists, too.
func checkKeptConfig(t *testing.T, name string, given, before impl.Config) {
	t.Helper()
	if given.Frames != before.Frames || given.Colours != before.Colours || len(given.Tenants) != len(before.Tenants) {
		t.Fatalf("%s: a config was changed", name)
	}
	for i, tenant := range given.Tenants {
		if tenant.Cpus != before.Tenants[i].Cpus {
			t.Errorf("%s: the Cpus of a config were changed", name)
		}
		checkKept(t, name, tenant.Colours, before.Tenants[i].Colours)
	}
	if behind := given.Tenants[:len(given.Tenants)+1]; !reflect.DeepEqual(behind[len(given.Tenants)], tenantOf(77, 78, 79)) {
		t.Errorf("%s: memory behind the tenants was changed", name)
	}
}

type colourCall struct {
	name string
	call func(c impl.Config, number int64) impl.IntsResult
}

// asList has a value in a list, so that all calls are held against one another alike.
func asList(got impl.IntResult) impl.IntsResult {
	return impl.IntsResult{Code: got.Code, List: []int64{got.Value}}
}

func colourCalls() []colourCall {
	return []colourCall{
		{"ConfigFault", func(c impl.Config, _ int64) impl.IntsResult { return impl.IntsResult{Code: impl.ConfigFault(c)} }},
		{"ColourOf", func(c impl.Config, frame int64) impl.IntsResult { return asList(impl.ColourOf(c, frame)) }},
		{"FramesFor", impl.FramesFor},
		{"RoomFor", func(c impl.Config, tenant int64) impl.IntsResult { return asList(impl.RoomFor(c, tenant)) }},
		{"OwnerOf", func(c impl.Config, frame int64) impl.IntsResult { return asList(impl.OwnerOf(c, frame)) }},
	}
}

// manyConfigs is one right config at least, and one of each fault.
func manyConfigs() []impl.Config {
	return []impl.Config{
		testConfig(),
		configOf(impl.MaxFrames, 8, tenantOf(2, 0, 1, 2, 3, 4, 5, 6, 7)),
		{},
		configOf(5, 4),
		configOf(5, 4, tenantOf(1), tenantOf(1), tenantOf(1), tenantOf(1)),
		configOf(5, 4, tenantOf(1, 3, 1, 2), tenantOf(1, 0)),
		configOf(5, 4, tenantOf(1, 4), tenantOf(1, 2, 0)),
		configOf(5, 4, tenantOf(1, 0, 3), tenantOf(1, 2, 3)),
	}
}

func TestP1AConfigStays(t *testing.T) {
	for _, made := range colourCalls() {
		for _, c := range manyConfigs() {
			for _, number := range []int64{0, 1, 2, 3, 9, 39, -1, greatest, least} {
				given := roomyConfig(c)
				made.call(given, number)
				checkKeptConfig(t, made.name, given, c)
			}
		}
	}
}

func TestP1FramesForIsNewMemory(t *testing.T) {
	for _, c := range []impl.Config{testConfig(), configOf(8, 8, tenantOf(2, 0, 1, 2, 3, 4, 5, 6, 7)), configOf(impl.MaxFrames, 1, tenantOf(1, 0))} {
		for tenant := range int64(len(c.Tenants)) {
			given := roomyConfig(c)
			first, second := impl.FramesFor(given, tenant), impl.FramesFor(given, tenant)
			wanted := slices.Clone(first.List)

			spoil(first.List)
			checkKeptConfig(t, "FramesFor, its answer overwritten", given, c)
			checkList(t, "FramesFor, the other answer overwritten", second, wanted)
			checkList(t, "FramesFor, behind one that was overwritten", impl.FramesFor(given, tenant), wanted)

			for i := range given.Tenants {
				spoil(given.Tenants[i].Colours)
				given.Tenants[i] = impl.TenantConfig{}
			}
			checkList(t, "FramesFor, its config overwritten", second, wanted)
		}
	}
}

func TestP1NothingOfAConfigIsKept(t *testing.T) {
	for _, made := range colourCalls() {
		for _, c := range manyConfigs() {
			for _, number := range []int64{0, 1, 2, 5, -1, 40} {
				wanted := made.call(c, number)
				for _, other := range manyConfigs() {
					for _, between := range colourCalls() {
						between.call(other, 1)
					}
				}
				got := made.call(c, number)
				if got.Code != wanted.Code || !slices.Equal(got.List, wanted.List) {
					t.Errorf("%s of %v and %d: %v, then %v", made.name, c, number, wanted, got)
				}
			}
		}
	}
}

func TestP1NilAndAnEmptyListOfColoursAreTheSame(t *testing.T) {
	for _, made := range colourCalls() {
		for _, number := range []int64{0, 1, 2, 3, -1, 40} {
			var answers []impl.IntsResult
			for _, none := range [][]int64{nil, {}, make([]int64, 0, 8)} {
				answers = append(answers, made.call(configOf(7, 3, tenantOf(1, 1), impl.TenantConfig{Colours: none, Cpus: 1}), number))
			}
			for _, other := range answers[1:] {
				if other.Code != answers[0].Code || !slices.Equal(other.List, answers[0].List) {
					t.Errorf("%s of %d: %v, and %v", made.name, number, answers[0], other)
				}
			}
		}
	}
}
