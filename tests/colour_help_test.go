package tests

import (
	"slices"
	"testing"

	"loop.example/g00729/impl"
)

func tenantOf(cpus int64, colours ...int64) impl.TenantConfig {
	return impl.TenantConfig{Colours: colours, Cpus: cpus}
}

func configOf(frames, colours int64, tenants ...impl.TenantConfig) impl.Config {
	return impl.Config{Frames: frames, Colours: colours, Tenants: tenants}
}

// testConfig has a tenant without colours, colours that are nobody's, and a last round of colours that is cut short.
func testConfig() impl.Config {
	return configOf(10, 6, tenantOf(2, 0, 3), tenantOf(1), tenantOf(1, 1, 5))
}

// configOfOwners gives each colour to the tenant that stands at its place in owners, or to nobody for a -1.
func configOfOwners(frames int64, owners []int64, tenants int) impl.Config {
	c := configOf(frames, int64(len(owners)))
	for tenant := range tenants {
		own := tenantOf(int64(1 + tenant%impl.MaxCpus))
		for colour, owner := range owners {
			if owner == int64(tenant) {
				own.Colours = append(own.Colours, int64(colour))
			}
		}
		c.Tenants = append(c.Tenants, own)
	}
	return c
}

// allOwners is every way to give so many colours to so many tenants and nobody.
func allOwners(colours, tenants int) [][]int64 {
	ways := [][]int64{nil}
	for range colours {
		var longer [][]int64
		for _, way := range ways {
			for owner := int64(-1); owner < int64(tenants); owner++ {
				longer = append(longer, append(slices.Clone(way), owner))
			}
		}
		ways = longer
	}
	return ways
}

// wantedOwners counts the colours round and round, apart from the program's division.
func wantedOwners(frames int64, owners []int64) []int64 {
	wanted := make([]int64, 0, frames)
	for int64(len(wanted)) < frames {
		wanted = append(wanted, owners...)
	}
	return wanted[:frames]
}

func placesOf(list []int64, value int64) []int64 {
	var places []int64
	for i, other := range list {
		if other == value {
			places = append(places, int64(i))
		}
	}
	return places
}

// checkValue wants OK and just this value.
func checkValue(t *testing.T, name string, got impl.IntResult, wanted int64) {
	t.Helper()
	if got != (impl.IntResult{Value: wanted}) {
		t.Errorf("%s: code %d, value %d, wanted %d", name, got.Code, got.Value, wanted)
	}
}

// checkNoValue wants this code and nothing beside it.
func checkNoValue(t *testing.T, name string, got impl.IntResult, code int64) {
	t.Helper()
	if got != (impl.IntResult{Code: code}) {
		t.Errorf("%s: code %d, value %d, wanted the code %d", name, got.Code, got.Value, code)
	}
}

// checkConfig wants this code of ConfigFault, and of each function that asks it, whatever else it is asked.
func checkConfig(t *testing.T, name string, c impl.Config, code int64) {
	t.Helper()
	if got := impl.ConfigFault(c); got != code {
		t.Errorf("%s: fault %d, wanted %d", name, got, code)
	}
	if code == impl.OK {
		checkRightConfig(t, name, c)
		return
	}
	for _, number := range []int64{0, 1, -1, impl.MaxTenants, impl.MaxFrames, greatest, least} {
		checkNoValue(t, numbered(name+", ColourOf", number), impl.ColourOf(c, number), code)
		checkCode(t, numbered(name+", FramesFor", number), impl.FramesFor(c, number), code)
		checkNoValue(t, numbered(name+", RoomFor", number), impl.RoomFor(c, number), code)
		checkNoValue(t, numbered(name+", OwnerOf", number), impl.OwnerOf(c, number), code)
	}
}

// checkRightConfig wants an answer of each function where the config has no fault.
func checkRightConfig(t *testing.T, name string, c impl.Config) {
	t.Helper()
	checkValue(t, name+", ColourOf", impl.ColourOf(c, 0), 0)
	if got := impl.FramesFor(c, 0); got.Code != impl.OK {
		t.Errorf("%s, FramesFor: code %d", name, got.Code)
	}
	if got := impl.RoomFor(c, 0); got.Code != impl.OK {
		t.Errorf("%s, RoomFor: code %d", name, got.Code)
	}
	if got := impl.OwnerOf(c, 0); got.Code != impl.OK && got.Code != impl.ErrNone {
		t.Errorf("%s, OwnerOf: code %d", name, got.Code)
	}
}
