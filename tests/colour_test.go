package tests

import (
	"slices"
	"testing"

	"loop.example/g00729/impl"
)

// checkOwners wants of each frame its colour and its owner, and of each tenant just the frames that it owns.
func checkOwners(t *testing.T, c impl.Config, owners []int64) {
	t.Helper()
	wanted := wantedOwners(c.Frames, owners)
	for frame, owner := range wanted {
		number := int64(frame)
		if owner < 0 {
			checkNoValue(t, numbered("OwnerOf", number), impl.OwnerOf(c, number), impl.ErrNone)
		} else {
			checkValue(t, numbered("OwnerOf", number), impl.OwnerOf(c, number), owner)
		}
	}
	for tenant := range int64(len(c.Tenants)) {
		own := placesOf(wanted, tenant)
		checkList(t, numbered("FramesFor", tenant), impl.FramesFor(c, tenant), own)
		checkValue(t, numbered("RoomFor", tenant), impl.RoomFor(c, tenant), int64(len(own)))
	}
	if t.Failed() {
		t.Fatalf("the config is %v", c)
	}
}

func TestP3TheConfigOfTheExample(t *testing.T) {
	c := testConfig()
	colours := []int64{0, 1, 2, 3, 4, 5, 0, 1, 2, 3}
	for frame, colour := range colours {
		checkValue(t, numbered("ColourOf", int64(frame)), impl.ColourOf(c, int64(frame)), colour)
	}
	checkList(t, "FramesFor 0", impl.FramesFor(c, 0), []int64{0, 3, 6, 9})
	checkList(t, "FramesFor 1", impl.FramesFor(c, 1), nil)
	checkList(t, "FramesFor 2", impl.FramesFor(c, 2), []int64{1, 5, 7})
	checkValue(t, "RoomFor 0", impl.RoomFor(c, 0), 4)
	checkValue(t, "RoomFor 1", impl.RoomFor(c, 1), 0)
	checkValue(t, "RoomFor 2", impl.RoomFor(c, 2), 3)
	checkValue(t, "OwnerOf 9", impl.OwnerOf(c, 9), 0)
	checkValue(t, "OwnerOf 7", impl.OwnerOf(c, 7), 2)
	checkNoValue(t, "OwnerOf 4", impl.OwnerOf(c, 4), impl.ErrNone)
	checkValue(t, "the example of the document", impl.OwnerOf(configOf(8, 4, tenantOf(2, 0, 2), tenantOf(1, 1)), 5), 1)
}

func TestP3EachFrameIsOfOneColour(t *testing.T) {
	for frames := int64(1); frames <= impl.MaxFrames; frames++ {
		for colours := int64(1); colours <= impl.MaxColours; colours++ {
			c := configOf(frames, colours, tenantOf(1))
			wanted := int64(0)
			for frame := range frames {
				checkValue(t, numbered("ColourOf", frame), impl.ColourOf(c, frame), wanted)
				wanted++
				if wanted == colours {
					wanted = 0
				}
			}
		}
	}
}

func TestP3EachFrameIsOfOneTenantAtMost(t *testing.T) {
	for tenants := 1; tenants <= impl.MaxTenants; tenants++ {
		for colours := 1; colours <= 4; colours++ {
			for _, owners := range allOwners(colours, tenants) {
				for _, frames := range []int64{1, 2, 3, 4, 5, 11, impl.MaxFrames} {
					checkOwners(t, configOfOwners(frames, owners, tenants), owners)
				}
			}
		}
	}
}

func TestP3AllColoursThatThereMayBe(t *testing.T) {
	for _, owners := range [][]int64{
		{0, 1, 2, 0, 1, 2, 0, 1},
		{2, 2, 1, 1, 0, 0, -1, -1},
		{-1, -1, -1, 1, -1, -1, -1, 2},
		{1, 1, 1, 1, 1, 1, 1, 1},
		{-1, -1, -1, -1, -1, -1, -1, -1},
	} {
		for frames := int64(1); frames <= impl.MaxFrames; frames++ {
			checkOwners(t, configOfOwners(frames, owners, impl.MaxTenants), owners)
		}
	}
}

func TestP3ATenantWithoutColoursHasNoFrames(t *testing.T) {
	for _, none := range [][]int64{nil, {}} {
		alone := configOf(impl.MaxFrames, 1, impl.TenantConfig{Colours: none, Cpus: 1})
		between := configOf(6, 2, tenantOf(1, 0), impl.TenantConfig{Colours: none, Cpus: 2}, tenantOf(1, 1))
		for tenant, c := range []impl.Config{alone, between} {
			if code := impl.ConfigFault(c); code != impl.OK {
				t.Errorf("%v: fault %d", c, code)
			}
			checkList(t, "FramesFor one without colours", impl.FramesFor(c, int64(tenant)), nil)
			checkValue(t, "RoomFor one without colours", impl.RoomFor(c, int64(tenant)), 0)
		}
		for frame := range int64(impl.MaxFrames) {
			checkNoValue(t, "OwnerOf, where all are without colours", impl.OwnerOf(alone, frame), impl.ErrNone)
		}
		checkOwners(t, between, []int64{0, 2})
	}
}

func TestP3ATenantWhoseColoursNoFrameHas(t *testing.T) {
	c := configOf(3, 8, tenantOf(1, 3, 7), tenantOf(1, 2, 4), tenantOf(2, 1))
	checkOwners(t, c, []int64{-1, 2, 1, 0, 1, -1, -1, 0})
	checkList(t, "FramesFor 0", impl.FramesFor(c, 0), nil)
	checkValue(t, "RoomFor 0", impl.RoomFor(c, 0), 0)
	checkList(t, "FramesFor 1", impl.FramesFor(c, 1), []int64{2})
	checkNoValue(t, "ColourOf, a colour that is no frame", impl.ColourOf(c, 3), impl.ErrRange)
}

func TestP3TheCpusDoNotTellWhoseAFrameIs(t *testing.T) {
	c := testConfig()
	for tenant := range c.Tenants {
		c.Tenants[tenant].Cpus = impl.MaxCpus
	}
	checkOwners(t, c, []int64{0, 2, -1, 0, -1, 2})
}

func TestP3TheFramesOfAllTenantsAreAllThatSomebodyOwns(t *testing.T) {
	for frames := int64(1); frames <= impl.MaxFrames; frames++ {
		c := configOf(frames, 5, tenantOf(1, 1, 3), tenantOf(1, 4), tenantOf(2, 0))
		var all []int64
		for tenant := range int64(len(c.Tenants)) {
			own := impl.FramesFor(c, tenant).List
			if !slices.IsSorted(own) {
				t.Errorf("the frames %v do not rise", own)
			}
			all = append(all, own...)
		}
		slices.Sort(all)
		for frame := range frames {
			met := len(placesOf(all, frame))
			if owned := impl.OwnerOf(c, frame).Code == impl.OK; owned && met != 1 || !owned && met != 0 {
				t.Errorf("the frame %d stands in %d lists", frame, met)
			}
		}
	}
}

func TestP1FramesOfAConfigThatAreNone(t *testing.T) {
	for _, frames := range []int64{1, 2, 10, impl.MaxFrames} {
		for _, c := range []impl.Config{configOf(frames, 6, tenantOf(1, 0)), configOf(frames, 1, tenantOf(1)), configOf(frames, 1, tenantOf(1, 0))} {
			for _, frame := range append(noFrames(frames), outside(0, frames-1)...) {
				checkNoValue(t, numbered("ColourOf", frame), impl.ColourOf(c, frame), impl.ErrRange)
				checkNoValue(t, numbered("OwnerOf", frame), impl.OwnerOf(c, frame), impl.ErrRange)
			}
		}
	}
}

func TestP1TenantsThatAreNone(t *testing.T) {
	all := []impl.TenantConfig{tenantOf(1, 0, 3), tenantOf(1), tenantOf(2, 1, 5)}
	for count := 1; count <= impl.MaxTenants; count++ {
		c := configOf(10, 6, all[:count]...)
		for _, tenant := range outside(0, int64(count)-1) {
			checkCode(t, numbered("FramesFor", tenant), impl.FramesFor(c, tenant), impl.ErrNone)
			checkNoValue(t, numbered("RoomFor", tenant), impl.RoomFor(c, tenant), impl.ErrNone)
		}
		checkValue(t, "RoomFor the last one", impl.RoomFor(c, int64(count)-1), []int64{4, 0, 3}[count-1])
	}
}
