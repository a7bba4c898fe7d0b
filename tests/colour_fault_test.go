package tests

import (
	"slices"
	"testing"

	"loop.example/g00729/impl"
)

func TestBoundsOfAConfigAreThoseOfTheDocument(t *testing.T) {
	if impl.MaxColours != 8 || impl.MaxTenants != 3 || impl.MaxCpus != 2 {
		t.Error("bounds", impl.MaxColours, impl.MaxTenants, impl.MaxCpus)
	}
}

// outside is numbers that are not low to high; the great ones wrap around where they are counted on.
func outside(low, high int64) []int64 {
	return []int64{low - 1, low - 2, high + 1, high + 2, greatest, greatest - 1, least, least + 1, 1 << 32, -1 << 32}
}

func TestP1ConfigFaultBoundsTheFrames(t *testing.T) {
	for frames := int64(1); frames <= impl.MaxFrames; frames++ {
		checkConfig(t, numbered("Frames", frames), configOf(frames, 4, tenantOf(1, 0, 3)), impl.OK)
	}
	for _, frames := range outside(1, impl.MaxFrames) {
		checkConfig(t, numbered("Frames", frames), configOf(frames, 4, tenantOf(1, 0, 3)), impl.ErrRange)
	}
}

func TestP1ConfigFaultBoundsTheColours(t *testing.T) {
	for colours := int64(1); colours <= impl.MaxColours; colours++ {
		checkConfig(t, numbered("Colours", colours), configOf(5, colours, tenantOf(1, colours-1)), impl.OK)
	}
	for _, colours := range outside(1, impl.MaxColours) {
		checkConfig(t, numbered("Colours", colours), configOf(5, colours, tenantOf(1)), impl.ErrRange)
		checkConfig(t, numbered("Colours, one of them somebody's,", colours), configOf(5, colours, tenantOf(1, 0)), impl.ErrRange)
	}
}

func TestP1ConfigFaultCountsTheTenants(t *testing.T) {
	checkConfig(t, "nil for tenants", impl.Config{Frames: 1, Colours: 1}, impl.ErrMany)
	checkConfig(t, "no tenants", impl.Config{Frames: 1, Colours: 1, Tenants: []impl.TenantConfig{}}, impl.ErrMany)
	for _, count := range []int{1, 2, impl.MaxTenants, impl.MaxTenants + 1, impl.MaxTenants + 2, 100000} {
		wanted := int64(impl.OK)
		if count > impl.MaxTenants {
			wanted = impl.ErrMany
		}
		tenants := slices.Repeat([]impl.TenantConfig{tenantOf(1)}, count)
		checkConfig(t, numbered("tenants without colours, as many as", int64(count)), configOf(5, 4, tenants...), wanted)
	}
}

// checkAtEachPlace asks for the code of a config in which this one is the first, the second and the last tenant.
func checkAtEachPlace(t *testing.T, name string, colours int64, tenant impl.TenantConfig, code int64) {
	t.Helper()
	for count := 1; count <= impl.MaxTenants; count++ {
		for place := range count {
			tenants := slices.Repeat([]impl.TenantConfig{tenantOf(1)}, count)
			tenants[place] = tenant
			checkConfig(t, numbered(name+", as the tenant", int64(place)), configOf(5, colours, tenants...), code)
		}
	}
}

func TestP1ConfigFaultBoundsTheCpusOfEachTenant(t *testing.T) {
	for cpus := int64(1); cpus <= impl.MaxCpus; cpus++ {
		checkAtEachPlace(t, numbered("Cpus", cpus), 4, tenantOf(cpus, 2), impl.OK)
	}
	for _, cpus := range outside(1, impl.MaxCpus) {
		checkAtEachPlace(t, numbered("Cpus", cpus), 4, tenantOf(cpus, 2), impl.ErrRange)
		checkAtEachPlace(t, numbered("no colours, Cpus", cpus), 4, tenantOf(cpus), impl.ErrRange)
	}
}

func TestP1ConfigFaultBoundsEachColourOfEachTenant(t *testing.T) {
	for colours := int64(1); colours <= impl.MaxColours; colours++ {
		for colour := range colours {
			checkAtEachPlace(t, numbered("the colour", colour), colours, tenantOf(1, colour), impl.OK)
		}
		for _, colour := range outside(0, colours-1) {
			checkAtEachPlace(t, numbered("the colour", colour), colours, tenantOf(1, colour), impl.ErrRange)
			// Whether they rise is asked behind the bounds of all of them.
			checkAtEachPlace(t, numbered("behind 0, the colour", colour), colours, tenantOf(1, 0, colour), impl.ErrRange)
			checkAtEachPlace(t, numbered("ahead of 0, the colour", colour), colours, tenantOf(1, colour, 0), impl.ErrRange)
			checkAtEachPlace(t, numbered("behind twice 0, the colour", colour), colours, tenantOf(1, 0, 0, colour), impl.ErrRange)
			checkAtEachPlace(t, numbered("twice, the colour", colour), colours, tenantOf(1, colour, colour), impl.ErrRange)
		}
	}
}

func TestP1ConfigFaultWantsColoursThatRise(t *testing.T) {
	const colours = 4
	lists := [][]int64{nil}
	for range 5 {
		var longer [][]int64
		for _, list := range lists {
			wanted := int64(impl.OK)
			for at, colour := range list {
				// Each one is held against all ahead of it, and not its neighbour alone.
				if at > 0 && slices.Max(list[:at]) >= colour {
					wanted = impl.ErrForm
				}
			}
			if got := impl.ConfigFault(configOf(5, colours, tenantOf(1), tenantOf(2, list...))); got != wanted {
				t.Errorf("the colours %v: fault %d, wanted %d", list, got, wanted)
			}
			for colour := range int64(colours) {
				longer = append(longer, append(slices.Clone(list), colour))
			}
		}
		lists = longer
	}
	for _, list := range [][]int64{{1, 0}, {0, 0}, {3, 3}, {0, 2, 1}, {0, 3, 3}, {0, 1, 2, 3, 0}} {
		checkAtEachPlace(t, "colours that do not rise", colours, tenantOf(1, list...), impl.ErrForm)
	}
	checkAtEachPlace(t, "all colours", impl.MaxColours, tenantOf(1, 0, 1, 2, 3, 4, 5, 6, 7), impl.OK)
	checkAtEachPlace(t, "one colour, very often", 1, tenantOf(1, make([]int64, 100000)...), impl.ErrForm)
}

func TestP3AColourOfTwoTenantsIsTaken(t *testing.T) {
	for colour := range int64(impl.MaxColours) {
		for first := range impl.MaxTenants {
			for second := range first {
				tenants := slices.Repeat([]impl.TenantConfig{tenantOf(1)}, impl.MaxTenants)
				tenants[first], tenants[second] = tenantOf(1, colour), tenantOf(2, colour)
				checkConfig(t, numbered("of two, the colour", colour), configOf(5, 8, tenants...), impl.ErrTaken)
			}
		}
		checkConfig(t, numbered("of all, the colour", colour), configOf(1, 8, tenantOf(1, colour), tenantOf(1, colour), tenantOf(1, colour)), impl.ErrTaken)
	}
	checkConfig(t, "the last colour of one is the first one of the other", configOf(5, 8, tenantOf(1, 0, 1, 4), tenantOf(1, 4, 5)), impl.ErrTaken)
	checkConfig(t, "a colour among others", configOf(5, 8, tenantOf(1, 0, 3, 7), tenantOf(1, 1, 2), tenantOf(1, 3, 5)), impl.ErrTaken)
	checkConfig(t, "the same colours", configOf(5, 8, tenantOf(1, 0, 3), tenantOf(1, 0, 3)), impl.ErrTaken)
	checkConfig(t, "colours that no frame has", configOf(1, 8, tenantOf(1, 7), tenantOf(1, 7)), impl.ErrTaken)
	checkConfig(t, "all colours, of three", configOf(5, 8, tenantOf(1, 0, 3, 6), tenantOf(1, 1, 4, 7), tenantOf(1, 2, 5)), impl.OK)
}

func TestP1WhichCodeOfAConfigComesFirst(t *testing.T) {
	right, few, falling, wild := tenantOf(1, 0), tenantOf(0), tenantOf(1, 1, 0), tenantOf(1, 9)
	cases := []struct {
		name string
		c    impl.Config
		code int64
	}{
		{"nothing at all", impl.Config{}, impl.ErrRange},
		{"Frames ahead of no tenants", configOf(0, 4), impl.ErrRange},
		{"Colours ahead of no tenants", configOf(5, 0), impl.ErrRange},
		{"Colours ahead of too many tenants", configOf(5, 9, right, right, right, right), impl.ErrRange},
		{"Frames ahead of what a tenant has", configOf(41, 4, falling), impl.ErrRange},
		{"Colours ahead of what a tenant has", configOf(5, 9, falling), impl.ErrRange},
		{"too many tenants ahead of Cpus", configOf(5, 4, few, few, few, few), impl.ErrMany},
		{"too many tenants ahead of colours that do not rise", configOf(5, 4, falling, right, right, right), impl.ErrMany},
		{"too many tenants ahead of a colour of two", configOf(5, 4, right, right, right, right), impl.ErrMany},
		{"Cpus ahead of colours that do not rise", configOf(5, 4, tenantOf(3, 1, 0)), impl.ErrRange},
		{"a wrong colour ahead of colours that do not rise", configOf(5, 4, tenantOf(1, 1, 0, 4)), impl.ErrRange},
		{"the first tenant's form ahead of the second one's Cpus", configOf(5, 4, falling, few), impl.ErrForm},
		{"the first tenant's form ahead of the second one's colour", configOf(5, 4, falling, wild), impl.ErrForm},
		{"the second tenant's form ahead of the third one's Cpus", configOf(5, 4, right, falling, few), impl.ErrForm},
		{"the first tenant's Cpus ahead of the second one's form", configOf(5, 4, few, falling), impl.ErrRange},
		{"the first tenant's colour ahead of the second one's form", configOf(5, 4, wild, falling), impl.ErrRange},
		{"the last tenant's Cpus ahead of a colour of two", configOf(5, 4, right, right, few), impl.ErrRange},
		{"the last tenant's colour ahead of a colour of two", configOf(5, 4, right, right, wild), impl.ErrRange},
		{"the last tenant's form ahead of a colour of two", configOf(5, 4, right, right, falling), impl.ErrForm},
		{"the second tenant's form ahead of its colour that is the first one's", configOf(5, 4, right, falling), impl.ErrForm},
		{"twice the same colour is no colour of two", configOf(5, 4, right, tenantOf(1, 1, 1)), impl.ErrForm},
	}
	for _, made := range cases {
		checkConfig(t, made.name, made.c, made.code)
	}
}

// wantedFault goes through the codes as the chapter tells them, apart from the program.
func wantedFault(c impl.Config) int64 {
	if c.Frames < 1 || c.Frames > 40 || c.Colours < 1 || c.Colours > 8 {
		return impl.ErrRange
	}
	if len(c.Tenants) == 0 || len(c.Tenants) > 3 {
		return impl.ErrMany
	}
	var all []int64
	for _, tenant := range c.Tenants {
		sorted := slices.Sorted(slices.Values(tenant.Colours))
		if tenant.Cpus < 1 || tenant.Cpus > 2 || len(sorted) > 0 && (sorted[0] < 0 || sorted[len(sorted)-1] >= c.Colours) {
			return impl.ErrRange
		}
		if !slices.Equal(slices.Compact(sorted), tenant.Colours) {
			return impl.ErrForm
		}
		all = append(all, tenant.Colours...)
	}
	slices.Sort(all)
	if len(slices.Compact(slices.Clone(all))) < len(all) {
		return impl.ErrTaken
	}
	return impl.OK
}

func TestP1ConfigFaultOfManyConfigs(t *testing.T) {
	pool := []impl.TenantConfig{
		tenantOf(1), tenantOf(2, 0), tenantOf(1, 1), tenantOf(2, 0, 1), tenantOf(1, 2), tenantOf(1, 7), tenantOf(1, 0, 0), tenantOf(1, 1, 0), tenantOf(1, -1),
		tenantOf(0), tenantOf(3, 1), tenantOf(greatest, 1, 0), tenantOf(1, least, greatest), tenantOf(1, 1, 0, 8),
	}
	lists := [][]impl.TenantConfig{nil}
	for range impl.MaxTenants {
		for _, list := range lists {
			for _, tenant := range pool {
				lists = append(lists, append(slices.Clone(list), tenant))
			}
		}
	}
	for _, tenants := range lists {
		for _, frames := range []int64{0, 1, impl.MaxFrames, impl.MaxFrames + 1} {
			for _, colours := range []int64{0, 1, 2, 3, impl.MaxColours, impl.MaxColours + 1} {
				c := configOf(frames, colours, tenants...)
				if got, wanted := impl.ConfigFault(c), wantedFault(c); got != wanted {
					t.Fatalf("%v: fault %d, wanted %d", c, got, wanted)
				}
			}
		}
	}
}
