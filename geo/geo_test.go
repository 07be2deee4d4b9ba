package geo_test

import (
	"math"
	"slices"
	"testing"

	"rill/api"
	"rill/geo"
)

// far are numbers that are out of every place, among them those that wrap round into one when they are cut, or reckoned with.
var far = []int{
	-1, -2, -3, -4, -18, -32, -64, -1 << 31, -1<<31 + 18, -1 << 32, -1<<32 + 18, -1<<32 + 32, -1 << 40, -1 << 59, -1<<59 + 1, -1 << 62, -1<<62 + 4,
	-math.MaxInt, math.MinInt, math.MinInt + 1, math.MinInt + 2, math.MinInt + 3, math.MinInt + 4, math.MinInt + 18, math.MinInt + 32, math.MinInt + 580,
	4096, 1<<31 - 1, 1 << 31, 1 << 32, 1<<32 + 4, 1<<32 + 18, 1<<32 + 32, 1 << 40, 1 << 58, 1 << 59, 1<<59 + 1, 1 << 60, 1<<61 + 3, 1 << 62, 1<<62 + 4, 3 << 61,
	math.MaxInt - 32, math.MaxInt - 3, math.MaxInt - 2, math.MaxInt - 1, math.MaxInt,
}

// g names a geometry by its numbers.
func g(segs, slots, blocks int) api.Geo { return api.Geo{Segs: segs, Slots: slots, Blocks: blocks} }

// plainNeed is the least number of segments that have room for four slots a block.
func plainNeed(slots, mapped int) int {
	n := 0
	for n*(slots-1) < 4*mapped {
		n++
	}
	return n
}

// plainLean is the greatest number of which five times are not beyond a segment's room.
func plainLean(slots int) int {
	n := 0
	for 5*(n+1) <= slots-1 {
		n++
	}
	return n
}

// plainMost is how many blocks there may be beside so many segments of so many slots; 0: there is no such geometry.
func plainMost(segs, slots int) int {
	most := 0
	for b := 1; b <= 64; b++ {
		if b+9 < (segs-plainNeed(slots, b)-14)*(plainLean(slots)+1) {
			most = b
		}
	}
	return most
}

// all are the geometries that may be, as the chapter words it.
func all() []api.Geo {
	var l []api.Geo
	for segs := 16; segs <= 32; segs++ {
		for slots := 32; slots <= 64; slots++ {
			for b := 1; b <= 64; b++ {
				if b+9 < (segs-plainNeed(slots, b)-14)*(plainLean(slots)+1) {
					l = append(l, g(segs, slots, b))
				}
			}
		}
	}
	return l
}

// ends are the geometries that may be, with one block, and with as many as may be.
func ends() []api.Geo {
	var l []api.Geo
	for segs := 16; segs <= 32; segs++ {
		for slots := 32; slots <= 64; slots++ {
			if most := plainMost(segs, slots); most > 0 {
				l = append(l, g(segs, slots, 1), g(segs, slots, most))
			}
		}
	}
	return l
}

// is tells of a number that is not as it should be.
func is(t *testing.T, what string, x api.Geo, got, want int) {
	t.Helper()
	if got != want {
		t.Errorf("%s, %v: %d, not %d", what, x, got, want)
	}
}

// stands tells of a place that has not just this sector.
func stands(t *testing.T, x api.Geo, p api.Place, at int) {
	t.Helper()
	is(t, "At", x, geo.At(x, p), at)
	if got, ok := geo.Place(x, at); !ok || got != p {
		t.Errorf("Place, %v, of %d: %v, %v, not %v", x, at, got, ok, p)
	}
}

// lacks tells of a sector that is a place's, and should be none's.
func lacks(t *testing.T, x api.Geo, at int) {
	t.Helper()
	if p, ok := geo.Place(x, at); ok || p != (api.Place{}) {
		t.Errorf("Place, %v, of %d: %v, %v, not none", x, at, p, ok)
	}
}

// mayNot tells of a geometry that is not refused by each call.
func mayNot(t *testing.T, x api.Geo) {
	t.Helper()
	is(t, "Check", x, int(geo.Check(x)), int(api.ErrGeo))
	is(t, "Sectors", x, geo.Sectors(x), 0)
	is(t, "Lean", x, geo.Lean(x), 0)
	for _, m := range []int{-1, 0, 1, 4, 8, 64, 65, x.Blocks, math.MinInt, math.MaxInt} {
		is(t, "Need", x, geo.Need(x, m), 0)
		is(t, "Reserve", x, geo.Reserve(x, m), 0)
	}
	for _, p := range []api.Place{{}, {Slot: 1}, {Seg: 1}, {Seg: 3, Slot: 4}, {Seg: -1, Slot: -1}, {Seg: x.Segs - 1, Slot: x.Slots - 1}, {Seg: x.Segs, Slot: x.Slots}} {
		is(t, "At", x, geo.At(x, p), 0)
	}
	for _, at := range []int{-1, 0, 2, 3, 4, 5, 36, 100, 578, 2050, x.Segs*x.Slots + 2, math.MinInt, math.MaxInt} {
		lacks(t, x, at)
	}
}

// The chapter's examples.
func TestExamples(t *testing.T) {
	for _, x := range []struct {
		geo                 api.Geo
		code                api.Errno
		need, lean, sectors int
	}{
		{g(18, 32, 4), api.OK, 1, 6, 579},
		{g(17, 32, 4), api.OK, 1, 6, 547},
		{g(32, 64, 64), api.OK, 5, 12, 2051},
		{g(17, 32, 5), api.ErrGeo, 0, 0, 0},
		{g(17, 32, 6), api.ErrGeo, 0, 0, 0},
		{g(15, 64, 1), api.ErrGeo, 0, 0, 0},
		{g(16, 31, 1), api.ErrGeo, 0, 0, 0},
		{g(32, 64, 65), api.ErrGeo, 0, 0, 0},
	} {
		is(t, "Check", x.geo, int(geo.Check(x.geo)), int(x.code))
		is(t, "Need of Blocks", x.geo, geo.Need(x.geo, x.geo.Blocks), x.need)
		is(t, "Lean", x.geo, geo.Lean(x.geo), x.lean)
		is(t, "Sectors", x.geo, geo.Sectors(x.geo), x.sectors)
	}
}

// P10.1: written out: as many blocks as may be beside so many segments of so many slots, and one more; where there is none, one is too many.
func TestMost(t *testing.T) {
	for _, x := range []struct{ segs, slots, most int }{
		{16, 32, 0}, {16, 50, 0}, {16, 51, 1}, {16, 55, 1}, {16, 56, 2}, {16, 61, 3}, {16, 64, 3},
		{17, 32, 4}, {17, 35, 4}, {17, 36, 6}, {17, 63, 15}, {17, 64, 15},
		{18, 32, 7}, {18, 33, 8}, {18, 34, 8}, {18, 36, 8}, {18, 64, 16},
		{19, 32, 11}, {20, 32, 15}, {22, 32, 23}, {24, 32, 31},
		{26, 32, 38}, {28, 32, 46}, {29, 32, 46}, {30, 32, 53}, {31, 32, 54}, {32, 32, 60},
		{19, 64, 29}, {20, 64, 31}, {21, 64, 42}, {22, 64, 47}, {23, 64, 55}, {24, 64, 63}, {25, 64, 64}, {32, 64, 64},
	} {
		for b := 1; b <= x.most; b++ {
			is(t, "Check", g(x.segs, x.slots, b), int(geo.Check(g(x.segs, x.slots, b))), int(api.OK))
		}
		for b := x.most + 1; b < 70; b++ {
			mayNot(t, g(x.segs, x.slots, b))
		}
		mayNot(t, g(x.segs, x.slots, 0))
	}
}

// P10.1: all geometries about the limits: just those may be that the chapter words.
func TestCheck(t *testing.T) {
	may := map[api.Geo]bool{}
	for _, x := range all() {
		may[x] = true
	}
	for segs := -3; segs < 40; segs++ {
		for slots := -3; slots < 72; slots++ {
			for b := -3; b < 72; b++ {
				x, want := g(segs, slots, b), api.ErrGeo
				if may[x] {
					want = api.OK
				}
				is(t, "Check", x, int(geo.Check(x)), int(want))
			}
		}
	}
}

// P10.1: each number at its limits, one below and one above, beside others that may be.
func TestLimits(t *testing.T) {
	for _, x := range []struct {
		geo  api.Geo
		code api.Errno
	}{
		{g(api.MinSegs, 64, 1), api.OK}, {g(api.MinSegs-1, 64, 1), api.ErrGeo}, {g(api.MinSegs+1, 64, 1), api.OK},
		{g(api.MaxSegs, 64, 1), api.OK}, {g(api.MaxSegs-1, 64, 1), api.OK}, {g(api.MaxSegs+1, 64, 1), api.ErrGeo},
		{g(32, api.MinSlots, 1), api.OK}, {g(32, api.MinSlots-1, 1), api.ErrGeo}, {g(32, api.MinSlots+1, 1), api.OK},
		{g(32, api.MaxSlots, 1), api.OK}, {g(32, api.MaxSlots-1, 1), api.OK}, {g(32, api.MaxSlots+1, 1), api.ErrGeo},
		{g(32, 64, 1), api.OK}, {g(32, 64, 0), api.ErrGeo}, {g(32, 64, 2), api.OK},
		{g(32, 64, api.MaxBlocks), api.OK}, {g(32, 64, api.MaxBlocks-1), api.OK}, {g(32, 64, api.MaxBlocks+1), api.ErrGeo},
	} {
		is(t, "Check", x.geo, int(geo.Check(x.geo)), int(x.code))
		if x.code != api.OK {
			mayNot(t, x.geo)
		} else if geo.Sectors(x.geo) == 0 || geo.Lean(x.geo) == 0 || geo.Need(x.geo, 1) != 1 {
			t.Errorf("%v: it may be, and has none", x.geo)
		}
	}
}

// P10.1: geometries with numbers that are far out: each call refuses them, and ends.
func TestFar(t *testing.T) {
	mayNot(t, api.Geo{})
	for _, v := range far {
		for _, x := range []api.Geo{
			g(v, 32, 4), g(18, v, 4), g(18, 32, v), g(v, 64, 64), g(32, v, 64), g(32, 64, v),
			g(v, v, 4), g(v, 32, v), g(18, v, v), g(v, v, v), g(v, 0, 0), g(0, v, 0), g(0, 0, v), g(18, 0, v), g(18, 1, v), g(v, 1, 1), g(v, 0, 1),
		} {
			mayNot(t, x)
		}
		for _, w := range far {
			for _, x := range []api.Geo{g(v, w, 1), g(v, 32, w), g(18, v, w)} {
				is(t, "Check", x, int(geo.Check(x)), int(api.ErrGeo))
			}
		}
	}
}

// P10.2, P10.4: the sectors from First on, one by one, are the places', segment by segment; none else is one's.
func TestPlaces(t *testing.T) {
	for _, x := range ends() {
		next := 3
		for seg := range x.Segs {
			for slot := range x.Slots {
				stands(t, x, api.Place{Seg: seg, Slot: slot}, next)
				next++
			}
		}
		is(t, "Sectors", x, geo.Sectors(x), next)
		if next > api.MaxSectors {
			t.Errorf("%v: %d sectors", x, next)
		}
		for _, at := range []int{-1, 0, 1, 2, next, next + 1, 2 * next, 4096} {
			lacks(t, x, at)
		}
	}
}

// P10.2: written out: places at the first and the last segment and slot, with their sectors.
func TestCorners(t *testing.T) {
	for _, x := range []struct {
		geo             api.Geo
		seg, slot, want int
	}{
		{g(18, 32, 4), 0, 0, 3}, {g(18, 32, 4), 0, 1, 4}, {g(18, 32, 4), 0, 31, 34}, {g(18, 32, 4), 1, 0, 35}, {g(18, 32, 4), 17, 0, 547}, {g(18, 32, 4), 17, 31, 578},
		{g(32, 64, 64), 0, 0, 3}, {g(32, 64, 64), 0, 63, 66}, {g(32, 64, 64), 1, 0, 67}, {g(32, 64, 64), 31, 0, 1987}, {g(32, 64, 64), 31, 63, 2050},
		{g(16, 51, 1), 0, 50, 53}, {g(16, 51, 1), 15, 0, 768}, {g(16, 51, 1), 15, 50, 818}, {g(20, 40, 8), 7, 13, 296},
	} {
		stands(t, x.geo, api.Place{Seg: x.seg, Slot: x.slot}, x.want)
	}
	for _, x := range []api.Geo{g(18, 32, 4), g(32, 64, 64), g(16, 51, 1), g(20, 40, 8)} {
		is(t, "First's place", x, geo.At(x, api.Place{}), api.First)
		is(t, "the last place", x, geo.At(x, api.Place{Seg: x.Segs - 1, Slot: x.Slots - 1}), geo.Sectors(x)-1)
		for _, at := range []int{0, api.First - 1, geo.Sectors(x)} {
			lacks(t, x, at)
		}
	}
}

// P10.2: places that are not there: one beyond each end, and far out, also where they would be reckoned to be another's sector.
func TestNoPlaces(t *testing.T) {
	for _, x := range []api.Geo{g(18, 32, 4), g(17, 32, 4), g(32, 64, 64), g(16, 51, 1), g(20, 40, 8)} {
		segs, slots := append([]int{x.Segs, x.Segs + 1}, far...), append([]int{x.Slots, x.Slots + 1}, far...)
		for _, seg := range segs {
			for _, slot := range append([]int{0, 1, x.Slots - 1}, slots...) {
				is(t, "At", x, geo.At(x, api.Place{Seg: seg, Slot: slot}), 0)
			}
		}
		for _, slot := range slots {
			for _, seg := range []int{0, 1, x.Segs - 1} {
				is(t, "At", x, geo.At(x, api.Place{Seg: seg, Slot: slot}), 0)
			}
		}
		for _, at := range far {
			lacks(t, x, at)
		}
	}
}

// P10.3: of all geometries that may be: Need, Reserve and Lean; they hang on the slots alone, and Need on what is mapped.
func TestNeed(t *testing.T) {
	for _, x := range all() {
		is(t, "Lean", x, geo.Lean(x), plainLean(x.Slots))
		for _, m := range []int{0, 1, 2, 7, 8, 15, 16, 31, 32, 63, 64, x.Blocks, x.Blocks + 1} {
			want := plainNeed(x.Slots, min(m, 64))
			is(t, "Need", x, geo.Need(x, m), want)
			is(t, "Reserve", x, geo.Reserve(x, m), want+8)
		}
	}
}

// P10.3: written out: needs about the steps, and Lean.
func TestNeedSteps(t *testing.T) {
	for _, x := range []struct{ slots, mapped, need, lean int }{
		{32, 0, 0, 6}, {32, 1, 1, 6}, {32, 7, 1, 6}, {32, 8, 2, 6}, {32, 15, 2, 6}, {32, 16, 3, 6}, {32, 31, 4, 6}, {32, 32, 5, 6}, {32, 62, 8, 6}, {32, 63, 9, 6}, {32, 64, 9, 6},
		{33, 8, 1, 6}, {33, 9, 2, 6}, {33, 64, 8, 6}, {35, 9, 2, 6}, {36, 8, 1, 7}, {36, 9, 2, 7}, {37, 9, 1, 7}, {40, 10, 2, 7}, {41, 10, 1, 8}, {41, 11, 2, 8},
		{50, 64, 6, 9}, {51, 64, 6, 10}, {52, 64, 6, 10}, {53, 64, 5, 10}, {61, 15, 1, 12}, {60, 15, 2, 11},
		{64, 0, 0, 12}, {64, 1, 1, 12}, {64, 15, 1, 12}, {64, 16, 2, 12}, {64, 31, 2, 12}, {64, 32, 3, 12}, {64, 47, 3, 12}, {64, 48, 4, 12}, {64, 63, 4, 12}, {64, 64, 5, 12},
	} {
		for _, y := range []api.Geo{g(32, x.slots, 1), g(32, x.slots, plainMost(32, x.slots)), g(20, x.slots, 8)} {
			is(t, "Need", y, geo.Need(y, x.mapped), x.need)
			is(t, "Reserve", y, geo.Reserve(y, x.mapped), x.need+api.Back)
			is(t, "Lean", y, geo.Lean(y), x.lean)
		}
	}
}

// P10.3: what is mapped is cut to 0 to MaxBlocks, not to Blocks.
func TestNeedCut(t *testing.T) {
	for _, x := range ends() {
		whole := geo.Need(x, api.MaxBlocks)
		is(t, "Need of MaxBlocks", x, whole, plainNeed(x.Slots, 64))
		for _, m := range slices.Concat(far, []int{0, 65, 66, 100, 128}) {
			want := 0
			if m > 0 {
				want = whole
			}
			is(t, "Need", x, geo.Need(x, m), want)
			is(t, "Reserve", x, geo.Reserve(x, m), want+8)
		}
	}
}

// P10.5: the live slots spread as evenly as they may be over the segments that are not left out: the leanest has Lean at most. In any other spread the leanest has no more.
func TestLeanOne(t *testing.T) {
	for _, x := range all() {
		for m := 0; m <= x.Blocks; m++ {
			for out := 0; out <= geo.Reserve(x, m)+5; out++ {
				others := x.Segs - out
				if others < 1 {
					t.Fatalf("%v, %d mapped: %d are left out", x, m, out)
				}
				if leanest := (x.Blocks + api.Nodes) / others; leanest > geo.Lean(x) {
					t.Errorf("%v, %d mapped, %d left out: the leanest has %d", x, m, out, leanest)
				}
			}
		}
	}
}

// P10.6: from block to block the need stays or rises by one; it has room for four slots a block, beside the last ones; and no segment of it could be missed.
func TestNeedRises(t *testing.T) {
	for _, x := range ends() {
		is(t, "Need of none", x, geo.Need(x, 0), 0)
		for m := -2; m < 70; m++ {
			n, more := geo.Need(x, m), geo.Need(x, m+1)
			if more < n || more > n+1 {
				t.Errorf("%v: Need of %d: %d; of one more: %d", x, m, n, more)
			}
			if m >= 0 && m <= 64 && n*(x.Slots-1) < 4*m {
				t.Errorf("%v: Need of %d: %d: no room", x, m, n)
			}
			if m > 0 && m <= 64 && (n-1)*(x.Slots-1) >= 4*m {
				t.Errorf("%v: Need of %d: %d: too many", x, m, n)
			}
		}
	}
}

// R4: what was asked ahead makes no difference, a geometry that may not be among it.
func TestAgain(t *testing.T) {
	x, y := g(18, 32, 4), g(32, 64, 64)
	for range 3 {
		for _, z := range []api.Geo{x, y, g(17, 32, 5)} {
			geo.Check(z)
			geo.Need(z, 64)
			geo.At(z, api.Place{Seg: 99, Slot: 1})
		}
		is(t, "Sectors", x, geo.Sectors(x), 579)
		is(t, "Need", x, geo.Need(x, 4), 1)
		is(t, "Reserve", y, geo.Reserve(y, 64), 13)
		stands(t, y, api.Place{Seg: 31, Slot: 63}, 2050)
		mayNot(t, g(17, 32, 5))
	}
}
