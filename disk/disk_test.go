package disk_test

import (
	"bytes"
	"math"
	"math/rand"
	"slices"
	"testing"

	"rill/api"
	"rill/disk"
)

// sizes are those of disks that may be.
var sizes = []int{1, 2, 3, 7, 64, 100, api.MaxSectors - 1, api.MaxSectors}

// lengths are those of sectors that may be.
var lengths = []int{0, 1, 2, 31, 32, 33, 255, 256, 512, api.SectorSize - 1, api.SectorSize}

// longer are those of sectors that may not be.
var longer = []int{api.SectorSize + 1, api.SectorSize + 2, 2 * api.SectorSize, 1 << 16, 1 << 20}

// outside are numbers that no disk of n sectors has.
func outside(n int) []int {
	return []int{-1, -2, -n, -n - 1, n, n + 1, 2*n + 1, api.MaxSectors, api.MaxSectors + 1, 1 << 16, 1<<16 + 1, 1 << 32, 1<<32 + n - 1, math.MaxInt, math.MaxInt - 1, math.MinInt, math.MinInt + 1, math.MinInt + n}
}

// text are bytes of all kinds.
func text(n int, seed int64) []byte {
	b := make([]byte, n)
	rand.New(rand.NewSource(seed)).Read(b)
	return b
}

// laid is a new disk; the test is told if there is none.
func laid(t *testing.T, n int) *disk.Disk {
	t.Helper()
	d, e := disk.New(n)
	if e != api.OK || d == nil {
		t.Fatalf("New(%d): %v, %d", n, d, e)
	}
	return d
}

// answers tells of errors that are not those that should be, in their order.
func answers(t *testing.T, got []api.Errno, want ...api.Errno) {
	t.Helper()
	if !slices.Equal(got, want) {
		t.Errorf("%v, not %v", got, want)
	}
}

// reads tells of a sector that is not read as these bytes.
func reads(t *testing.T, d *disk.Disk, i int, want []byte) {
	t.Helper()
	if b, e := d.Read(i); e != api.OK || !bytes.Equal(b, want) {
		t.Errorf("Read(%d): %x, %d, not %x", i, b, e, want)
	}
}

// dirty tells of dirty sectors that are not these.
func dirty(t *testing.T, d *disk.Disk, want ...int) {
	t.Helper()
	if l := d.Dirty(); !slices.Equal(l, want) {
		t.Errorf("Dirty: %v, not %v", l, want)
	}
}

// power tells of a disk of which the power is not as it should be.
func power(t *testing.T, d *disk.Disk, down bool) {
	t.Helper()
	if d.Down() != down {
		t.Errorf("Down: %v", d.Down())
	}
}

// counts tells of another number of writes.
func counts(t *testing.T, d *disk.Disk, want int) {
	t.Helper()
	if d.Writes() != want {
		t.Errorf("Writes: %d, not %d", d.Writes(), want)
	}
}

// onFor tells of a disk on which not just n operations are done.
func onFor(t *testing.T, d *disk.Disk, n int) {
	t.Helper()
	for k := range n {
		if e := d.Spend(); e != api.OK || d.Down() {
			t.Errorf("operation %d of %d: %d, %v", k, n, e, d.Down())
		}
	}
	answers(t, []api.Errno{d.Spend()}, api.ErrDown)
	power(t, d, true)
}

// unarmed tells of a disk of which the power fails behind some operations.
func unarmed(t *testing.T, d *disk.Disk) {
	t.Helper()
	for k := range 3000 {
		if e := d.Spend(); e != api.OK || d.Down() {
			t.Fatalf("operation %d: %d, %v", k, e, d.Down())
		}
	}
}

// fail lets the power of a disk fail.
func fail(t *testing.T, d *disk.Disk) {
	t.Helper()
	d.Arm(0)
	answers(t, []api.Errno{d.Spend()}, api.ErrDown)
	power(t, d, true)
}

// The chapter's examples.
func TestExamples(t *testing.T) {
	d := laid(t, 4)
	answers(t, []api.Errno{d.Write(1, []byte{7})}, api.OK)
	reads(t, d, 1, []byte{7})
	dirty(t, d, 1)
	d.Crash(nil)
	reads(t, d, 1, nil)

	d = laid(t, 4)
	answers(t, []api.Errno{d.Write(1, []byte{7}), d.Write(2, []byte{8})}, api.OK, api.OK)
	d.Crash([]int{0, 5})
	reads(t, d, 1, nil)
	reads(t, d, 2, []byte{8})

	d = laid(t, 4)
	answers(t, []api.Errno{d.Write(1, []byte{9}), d.Tamper(1, []byte{10})}, api.OK, api.OK)
	reads(t, d, 1, []byte{10})
	dirty(t, d)

	d = laid(t, 4)
	d.Arm(2)
	answers(t, []api.Errno{d.Write(9, nil), d.Spend(), d.Write(3, nil), d.Sync()}, api.ErrRange, api.OK, api.OK, api.ErrDown)
	power(t, d, true)
	answers(t, []api.Errno{d.Spend()}, api.ErrDown)
}

// P7.1: ErrRange and no disk, unless n is from 1 to MaxSectors.
func TestNewRefused(t *testing.T) {
	for _, n := range []int{0, -1, -2, -4096, math.MinInt, math.MinInt + 1, -1 << 32, 4097, 4098, 8192, 1 << 16, 1 << 32, 1<<32 + 1, 1<<32 + 4096, math.MaxInt} {
		if d, e := disk.New(n); d != nil || e != api.ErrRange {
			t.Errorf("New(%d): %v, %d", n, d, e)
		}
	}
}

// P7.1, P7.3: a new disk has so many sectors without bytes; the power is on, and not armed; nothing was done.
func TestNew(t *testing.T) {
	for _, n := range sizes {
		d := laid(t, n)
		if d.Len() != n {
			t.Errorf("%d sectors: %d", n, d.Len())
		}
		dirty(t, d)
		power(t, d, false)
		counts(t, d, 0)
		for i := range n {
			if d.Reads(i) != 0 {
				t.Errorf("%d sectors: Reads(%d): %d", n, i, d.Reads(i))
			}
			reads(t, d, i, nil)
		}
		unarmed(t, d)
		counts(t, d, 0)
		d.Crash(nil)
		if d.Len() != n {
			t.Errorf("%d sectors: %d behind a crash", n, d.Len())
		}
	}
}

// P7.1: that a new disk is not armed holds for many operations.
func TestNewUnarmed(t *testing.T) {
	d := laid(t, 1)
	for range 1 << 10 {
		unarmed(t, d)
	}
}

// P7.1: disks have nothing in common.
func TestApart(t *testing.T) {
	a, b := laid(t, 3), laid(t, 3)
	a.Write(1, []byte{1})
	a.Tamper(2, []byte{2})
	dirty(t, b)
	reads(t, b, 1, nil)
	reads(t, b, 2, nil)
	counts(t, b, 0)
	b.Write(1, []byte{3})
	b.Sync()
	dirty(t, a, 1)
	fail(t, b)
	power(t, a, false)
	unarmed(t, a)
	b.Crash(nil)
	reads(t, a, 1, []byte{1})
	reads(t, b, 1, []byte{3})
	if a.Reads(1) != 1 || b.Reads(1) != 2 || a.Writes() != 1 || b.Writes() != 1 {
		t.Error(a.Reads(1), b.Reads(1), a.Writes(), b.Writes())
	}
}

// P7.2, P7.3, P7.6: the first sector and the last one are there; below and behind them there is none.
func TestSectors(t *testing.T) {
	for _, n := range sizes {
		d := laid(t, n)
		for _, i := range outside(n) {
			answers(t, []api.Errno{d.Write(i, nil), d.Write(i, []byte{1}), d.Tamper(i, nil), d.Tamper(i, []byte{1})}, api.ErrRange, api.ErrRange, api.ErrRange, api.ErrRange)
			if b, e := d.Read(i); len(b) > 0 || e != api.ErrRange || d.Reads(i) != 0 {
				t.Errorf("%d sectors: Read(%d): %x, %d, %d", n, i, b, e, d.Reads(i))
			}
		}
		dirty(t, d)
		counts(t, d, 0)
		for k, i := range slices.Compact([]int{0, n / 2, n - 1}) {
			was := d.Reads(i)
			answers(t, []api.Errno{d.Write(i, []byte{1, byte(k)})}, api.OK)
			reads(t, d, i, []byte{1, byte(k)})
			answers(t, []api.Errno{d.Tamper(i, []byte{2, byte(k)})}, api.OK)
			reads(t, d, i, []byte{2, byte(k)})
			if d.Reads(i) != was+2 {
				t.Errorf("%d sectors: Reads(%d): %d", n, i, d.Reads(i))
			}
		}
	}
}

// P7.2, P7.3: each sector has its own bytes, in the cache and as they last.
func TestEach(t *testing.T) {
	for _, n := range sizes {
		d := laid(t, n)
		all := make([]int, n)
		for i := range n {
			all[i] = i
			answers(t, []api.Errno{d.Write(n-1-i, text(i%40, int64(i)))}, api.OK)
		}
		dirty(t, d, all...)
		counts(t, d, n)
		for range 2 {
			for i := range n {
				reads(t, d, n-1-i, text(i%40, int64(i)))
			}
			answers(t, []api.Errno{d.Sync()}, api.OK)
			dirty(t, d)
		}
		d.Crash(nil)
		for i := range n {
			reads(t, d, n-1-i, text(i%40, int64(i)))
			if r := d.Reads(n - 1 - i); r != 3 {
				t.Fatalf("%d sectors: Reads(%d): %d", n, n-1-i, r)
			}
		}
		counts(t, d, n)
	}
}

// P7.2, P7.6: no bytes, SectorSize of them and all between may be; one more may not, and changes nothing.
func TestLengths(t *testing.T) {
	d := laid(t, 2)
	for k, n := range lengths {
		answers(t, []api.Errno{d.Write(0, text(n, int64(k))), d.Tamper(1, text(n, int64(k+50)))}, api.OK, api.OK)
		dirty(t, d, 0)
		for _, m := range longer {
			answers(t, []api.Errno{d.Write(0, text(m, 3)), d.Write(1, make([]byte, m)), d.Tamper(0, text(m, 3)), d.Tamper(1, make([]byte, m))}, api.ErrLong, api.ErrLong, api.ErrLong, api.ErrLong)
		}
		reads(t, d, 0, text(n, int64(k)))
		reads(t, d, 1, text(n, int64(k+50)))
		dirty(t, d, 0)
		counts(t, d, k+1)
		d.Sync()
		reads(t, d, 0, text(n, int64(k)))
	}
}

// P7.2: a sector that was written with no bytes, or with those that it had, is dirty; what is written last counts.
func TestWriteAgain(t *testing.T) {
	d := laid(t, 3)
	d.Write(1, []byte{7, 8})
	d.Sync()
	for _, none := range [][]byte{nil, {}, text(5, 4)[:0]} {
		answers(t, []api.Errno{d.Write(1, none), d.Write(2, none)}, api.OK, api.OK)
		reads(t, d, 1, nil)
		dirty(t, d, 1, 2)
		d.Crash(nil)
		reads(t, d, 1, []byte{7, 8})
		dirty(t, d)
	}
	d.Write(1, []byte{7, 8})
	dirty(t, d, 1)
	d.Write(1, []byte{9})
	d.Write(1, []byte{1, 2, 3})
	dirty(t, d, 1)
	reads(t, d, 1, []byte{1, 2, 3})
	d.Write(1, nil)
	d.Crash([]int{1})
	reads(t, d, 1, nil)
	dirty(t, d)
	counts(t, d, 11)
}

// P7.2: with the power on ErrRange goes ahead of ErrLong; with the power off both are behind ErrDown, of Tamper and Read they are not.
func TestWhichError(t *testing.T) {
	for _, n := range sizes {
		d := laid(t, n)
		d.Write(0, []byte{1})
		for _, down := range []bool{false, true} {
			noSector, tooLong := api.ErrRange, api.ErrLong
			if down {
				fail(t, d)
				noSector, tooLong = api.ErrDown, api.ErrDown
			}
			for _, i := range []int{-1, n, math.MinInt, math.MaxInt} {
				for _, m := range append(longer, lengths...) {
					answers(t, []api.Errno{d.Write(i, make([]byte, m)), d.Tamper(i, make([]byte, m))}, noSector, api.ErrRange)
				}
				if b, e := d.Read(i); len(b) > 0 || e != api.ErrRange || d.Reads(i) != 0 {
					t.Errorf("Read(%d): %x, %d", i, b, e)
				}
			}
			for _, m := range longer {
				for _, i := range []int{0, n - 1} {
					answers(t, []api.Errno{d.Write(i, make([]byte, m)), d.Tamper(i, make([]byte, m))}, tooLong, api.ErrLong)
				}
			}
			power(t, d, down)
			dirty(t, d, 0)
			reads(t, d, 0, []byte{1})
			counts(t, d, 1)
		}
	}
}

// P7.2, P7.8: an operation by which the power fails is not done, nor is any behind it.
func TestPowerFails(t *testing.T) {
	for how := range 3 {
		d := laid(t, 4)
		d.Write(1, []byte{1})
		d.Sync()
		d.Write(1, []byte{2})
		d.Write(2, []byte{3})
		d.Arm(0)
		power(t, d, false)
		operations := []func() api.Errno{
			func() api.Errno { return d.Write(1, []byte{4}) },
			func() api.Errno { return d.Sync() },
			func() api.Errno { return d.Spend() },
		}
		for k := range 9 {
			answers(t, []api.Errno{operations[(k+how)%3]()}, api.ErrDown)
			power(t, d, true)
			dirty(t, d, 1, 2)
			reads(t, d, 1, []byte{2})
			reads(t, d, 2, []byte{3})
			counts(t, d, 3)
		}
		answers(t, []api.Errno{d.Write(3, []byte{5})}, api.ErrDown)
		dirty(t, d, 1, 2)
		d.Crash([]int{0, 1})
		power(t, d, false)
		reads(t, d, 1, []byte{1})
		reads(t, d, 2, []byte{3})
		reads(t, d, 3, nil)
		answers(t, []api.Errno{d.Write(1, []byte{4}), d.Sync(), d.Spend()}, api.OK, api.OK, api.OK)
		counts(t, d, 4)
	}
}

// P7.3, P7.6: what goes without power.
func TestWithoutPower(t *testing.T) {
	d := laid(t, 5)
	for i := range 4 {
		d.Write(i, []byte{byte(i)})
		d.Sync()
	}
	d.Write(3, []byte{33})
	d.Write(1, []byte{11})
	fail(t, d)
	if d.Len() != 5 {
		t.Error(d.Len())
	}
	dirty(t, d, 1, 3)
	counts(t, d, 6)
	for i, want := range [][]byte{{0}, {11}, {2}, {33}, nil} {
		reads(t, d, i, want)
		reads(t, d, i, want)
		if d.Reads(i) != 2 {
			t.Errorf("Reads(%d): %d", i, d.Reads(i))
		}
	}
	answers(t, []api.Errno{d.Tamper(1, []byte{111}), d.Tamper(2, []byte{22})}, api.OK, api.OK)
	dirty(t, d, 3)
	reads(t, d, 1, []byte{111})
	reads(t, d, 2, []byte{22})
	power(t, d, true)
	d.Crash(nil)
	for i, want := range [][]byte{{0}, {111}, {22}, {3}, nil} {
		reads(t, d, i, want)
	}
}

// P7.3: Dirty is rising, whatever was written first; what is dirty no more is left out.
func TestDirty(t *testing.T) {
	r := rand.New(rand.NewSource(5))
	for range 200 {
		n := 1 + r.Intn(60)
		d := laid(t, n)
		order := r.Perm(n)[:1+r.Intn(n)]
		for k, i := range order {
			d.Write(i, text(k%3, int64(k)))
			want := slices.Sorted(slices.Values(order[:k+1]))
			dirty(t, d, want...)
			dirty(t, d, want...)
		}
		for k, i := range r.Perm(len(order)) {
			d.Tamper(order[i], nil)
			if len(d.Dirty()) != len(order)-k-1 || slices.Contains(d.Dirty(), order[i]) {
				t.Errorf("%v without %d: %v", order, order[i], d.Dirty())
			}
		}
	}
}

// P7.3: Writes and Reads count the calls that answered OK, those alone, through Sync, Tamper, Crash and a power that fails.
func TestCounts(t *testing.T) {
	d := laid(t, 3)
	writes, read := 0, [3]int{}
	for k := range 40 {
		switch k % 4 {
		case 0:
			d.Sync()
		case 1:
			d.Tamper(k%3, []byte{byte(k)})
		case 2:
			d.Crash([]int{k % 3})
		case 3:
			fail(t, d)
		}
		for i := -1; i <= 3; i++ {
			there := i >= 0 && i < 3
			if e := d.Write(i, text(k%5, 6)); (e == api.OK) != (there && !d.Down()) {
				t.Errorf("Write(%d): %d", i, e)
			} else if e == api.OK {
				writes++
			}
			d.Write(i, make([]byte, api.SectorSize+1))
			for range k % 7 {
				if _, e := d.Read(i); (e == api.OK) != there {
					t.Errorf("Read(%d): %d", i, e)
				} else if there {
					read[i]++
				}
			}
		}
		d.Dirty()
		counts(t, d, writes)
		if got := [3]int{d.Reads(0), d.Reads(1), d.Reads(2)}; got != read || d.Reads(-1) != 0 || d.Reads(3) != 0 {
			t.Errorf("Reads: %v, not %v", got, read)
		}
		d.Crash(nil)
	}
}

// P7.2, P7.7: behind a Sync nothing is dirty, and what was read ahead of it is read behind any Crash; a second one changes nothing.
func TestSync(t *testing.T) {
	for k, l := range [][]int{nil, {}, {0, 0, 0}, {1, 1, 1}, {0, 1}, make([]int, 100)} {
		d := laid(t, 6)
		answers(t, []api.Errno{d.Sync(), d.Sync()}, api.OK, api.OK)
		for i := range 4 {
			d.Write(i, text(10, int64(k+i)))
		}
		d.Tamper(4, text(7, 7))
		d.Write(2, nil)
		d.Write(3, text(api.SectorSize, 8))
		answers(t, []api.Errno{d.Sync()}, api.OK)
		for range 3 {
			dirty(t, d)
			reads(t, d, 0, text(10, int64(k)))
			reads(t, d, 1, text(10, int64(k+1)))
			reads(t, d, 2, nil)
			reads(t, d, 3, text(api.SectorSize, 8))
			reads(t, d, 4, text(7, 7))
			reads(t, d, 5, nil)
			d.Crash(l)
		}
		d.Write(0, []byte{1})
		d.Write(1, []byte{2})
		answers(t, []api.Errno{d.Sync()}, api.OK)
		d.Write(0, []byte{3})
		d.Crash(nil)
		reads(t, d, 0, []byte{1})
		reads(t, d, 1, []byte{2})
		counts(t, d, 9)
	}
}

// P7.4, P7.8: behind Arm(n) just n operations are done, of each kind, and of all mixed.
func TestArm(t *testing.T) {
	for n := range 40 {
		for kind := range 4 {
			d := laid(t, 4)
			d.Arm(n)
			for k := range n {
				power(t, d, false)
				e := api.OK
				switch (kind + k*(kind/3)) % 3 {
				case 0:
					e = d.Write(k%4, []byte{byte(k)})
				case 1:
					e = d.Sync()
				case 2:
					e = d.Spend()
				}
				answers(t, []api.Errno{e}, api.OK)
			}
			power(t, d, false)
			onFor(t, d, 0)
			d.Crash(nil)
			unarmed(t, d)
		}
	}
	d := laid(t, 1)
	d.Arm(100000)
	onFor(t, d, 100000)
}

// P7.4: below 0 it is not armed, nor is it any more.
func TestArmNot(t *testing.T) {
	for _, n := range []int{-1, -2, -100, -1 << 32, -1<<32 + 1, math.MinInt, math.MinInt + 1} {
		d := laid(t, 2)
		d.Arm(n)
		unarmed(t, d)
		d.Arm(0)
		d.Arm(n)
		unarmed(t, d)
		d.Arm(5)
		answers(t, []api.Errno{d.Spend(), d.Spend()}, api.OK, api.OK)
		d.Arm(n)
		unarmed(t, d)
		d.Arm(6)
		onFor(t, d, 6)
	}
	for _, n := range []int{math.MaxInt, math.MaxInt - 1, 1 << 32, 1 << 31, 1 << 16} {
		d := laid(t, 2)
		d.Arm(n)
		unarmed(t, d)
	}
}

// P7.4: armed anew, the number that came last counts, and so it does behind operations.
func TestArmAgain(t *testing.T) {
	for _, l := range [][]int{{0, 3}, {3, 0}, {7, 2}, {2, 7}, {4, 4}, {1, 2, 3}} {
		d := laid(t, 2)
		for _, n := range l {
			d.Arm(n)
		}
		onFor(t, d, l[len(l)-1])
		d = laid(t, 2)
		for _, n := range l {
			d.Arm(n + 1)
			answers(t, []api.Errno{d.Spend()}, api.OK)
		}
		onFor(t, d, l[len(l)-1])
	}
}

// P7.4: Arm changes nothing but for how many operations it is armed: not the power, that has failed or not.
func TestArmAlone(t *testing.T) {
	for _, n := range []int{-1, 0, 1, 5, math.MaxInt, math.MinInt} {
		for _, down := range []bool{false, true} {
			d := laid(t, 3)
			d.Write(0, []byte{1})
			d.Sync()
			d.Write(1, []byte{2})
			if down {
				fail(t, d)
			}
			d.Arm(n)
			power(t, d, down)
			dirty(t, d, 1)
			counts(t, d, 2)
			reads(t, d, 0, []byte{1})
			reads(t, d, 1, []byte{2})
			if d.Len() != 3 || d.Reads(0) != 1 {
				t.Error(d.Len(), d.Reads(0))
			}
			if down {
				answers(t, []api.Errno{d.Spend(), d.Write(2, nil), d.Sync()}, api.ErrDown, api.ErrDown, api.ErrDown)
				power(t, d, true)
			}
			d.Crash(nil)
			reads(t, d, 0, []byte{1})
			reads(t, d, 1, nil)
			unarmed(t, d)
		}
	}
}

// P7.2, P7.4, P7.8: what is refused is no operation, nor are the other calls; they go on behind the last one, and the power does not fail by them.
func TestNoOperation(t *testing.T) {
	d := laid(t, 3)
	d.Write(1, []byte{1})
	none := func() {
		t.Helper()
		was := d.Writes()
		answers(t, []api.Errno{d.Write(-1, nil), d.Write(3, nil), d.Write(3, make([]byte, 1025)), d.Write(1, make([]byte, 1025))}, api.ErrRange, api.ErrRange, api.ErrRange, api.ErrLong)
		answers(t, []api.Errno{d.Tamper(0, []byte{1}), d.Tamper(-1, nil), d.Tamper(0, make([]byte, 1025))}, api.OK, api.ErrRange, api.ErrLong)
		d.Read(1)
		d.Read(-1)
		d.Dirty()
		d.Len()
		d.Reads(1)
		power(t, d, false)
		counts(t, d, was)
	}
	for n := range 6 {
		d.Arm(n)
		none()
		for k := range n {
			answers(t, []api.Errno{d.Write(k%3, []byte{byte(n)})}, api.OK)
			none()
		}
		onFor(t, d, 0)
		d.Crash(nil)
	}
}

// P7.5: each of the dirty sectors lasts or is lost, as the list's number of its place among them says; others stay.
func TestCrash(t *testing.T) {
	numbers := []int{1, -1, 2, 7, 256, 1 << 16, 1 << 32, math.MaxInt, math.MinInt}
	at := []int{1, 2, 4, 5, 8}
	for mask := range 1 << len(at) {
		for _, rest := range []int{-5, -3, -1, 0, 1, 4} {
			for _, down := range []bool{false, true} {
				d := laid(t, 10)
				for i := range 10 {
					d.Tamper(i, []byte{byte(i)})
				}
				for _, k := range []int{3, 0, 4, 1, 2} {
					d.Write(at[k], []byte{byte(at[k]), 1})
				}
				l := make([]int, len(at)+max(rest, 0))
				for k := range l {
					if mask>>(k%len(at))&1 == 1 {
						l[k] = numbers[(k+mask)%len(numbers)]
					}
				}
				l = l[:len(at)+rest]
				d.Arm(3)
				if down {
					fail(t, d)
				}
				d.Crash(l)
				dirty(t, d)
				for i := range 10 {
					want := []byte{byte(i)}
					if k := slices.Index(at, i); k >= 0 && k < len(l) && mask>>k&1 == 1 {
						want = append(want, 1)
					}
					reads(t, d, i, want)
				}
				power(t, d, false)
				unarmed(t, d)
				counts(t, d, len(at))
			}
		}
	}
}

// P7.5: each number of a list of its own alone, with as many dirty sectors as there may be.
func TestCrashMany(t *testing.T) {
	d := laid(t, api.MaxSectors)
	l := make([]int, api.MaxSectors/2)
	for round := range 3 {
		for i := range api.MaxSectors {
			d.Tamper(i, []byte{byte(i), byte(i >> 8)})
		}
		for k := range l {
			l[k] = (k*k + k/7 + round) % 3
			i := api.MaxSectors - 1 - 2*k
			d.Write(i, []byte{byte(i), byte(i >> 8), 1})
		}
		d.Crash(l)
		for i := range api.MaxSectors {
			want := []byte{byte(i), byte(i >> 8)}
			if i%2 == 1 && l[i/2] != 0 {
				want = append(want, 1)
			}
			reads(t, d, i, want)
		}
	}
}

// P7.5, P7.7: a Crash of a disk that is not dirty changes no sector, whatever the list; behind a second one it is as behind the first.
func TestCrashClean(t *testing.T) {
	for _, l := range [][]int{nil, {}, {0}, {1}, {1, 1, 1, 1}, make([]int, 5000)} {
		d := laid(t, 3)
		d.Write(0, []byte{1})
		d.Write(1, []byte{2})
		d.Crash([]int{0, 1})
		for range 3 {
			d.Crash(l)
			reads(t, d, 0, nil)
			reads(t, d, 1, []byte{2})
			reads(t, d, 2, nil)
		}
		d.Write(1, []byte{3})
		d.Crash([]int{0, 1})
		reads(t, d, 1, []byte{2})
		d.Write(1, []byte{4})
		d.Crash([]int{9})
		reads(t, d, 1, []byte{4})
	}
}

// P7.6: what is written past the cache lasts at once, and is dirty no more; other sectors stay as they are.
func TestTamper(t *testing.T) {
	for _, l := range [][]int{nil, {1, 1, 1, 1}} {
		d := laid(t, 4)
		for i := range 4 {
			d.Write(i, []byte{1, byte(i)})
		}
		d.Sync()
		d.Write(0, []byte{2, 0})
		d.Write(1, []byte{2, 1})
		d.Write(2, []byte{2, 2})
		answers(t, []api.Errno{d.Tamper(1, []byte{3, 1}), d.Tamper(3, []byte{3, 3})}, api.OK, api.OK)
		dirty(t, d, 0, 2)
		for i, want := range []byte{2, 3, 2, 3} {
			reads(t, d, i, []byte{want, byte(i)})
		}
		counts(t, d, 7)
		d.Write(3, []byte{4, 3})
		d.Tamper(2, nil)
		dirty(t, d, 0, 3)
		reads(t, d, 2, nil)
		d.Crash(l)
		kept := byte(len(l) / 4)
		for i, want := range [][]byte{{1 + kept, 0}, {3, 1}, nil, {3 + kept, 3}} {
			reads(t, d, i, want)
		}
		d.Tamper(0, []byte{5})
		d.Tamper(0, []byte{6})
		answers(t, []api.Errno{d.Sync()}, api.OK)
		reads(t, d, 0, []byte{6})
	}
}

// P7.5, P7.6: the place in the list is that among the sectors that are dirty still.
func TestTamperCrash(t *testing.T) {
	d := laid(t, 5)
	for i := range 5 {
		d.Write(i, []byte{byte(i)})
	}
	d.Tamper(2, []byte{9})
	d.Tamper(0, []byte{8})
	d.Crash([]int{1, 0, 1})
	for i, want := range [][]byte{{8}, {1}, {9}, nil, {4}} {
		reads(t, d, i, want)
	}
}

// R3: what is handed in is not changed and not kept, nor is what lies ahead of it and in its spare room.
func TestHandedIn(t *testing.T) {
	for _, n := range lengths {
		for _, room := range []int{0, 1, 40} {
			d := laid(t, 2)
			whole := text(n+100, 9)
			b := whole[30 : 30+n : 30+n+room]
			answers(t, []api.Errno{d.Write(0, b), d.Tamper(1, b)}, api.OK, api.OK)
			if !bytes.Equal(whole, text(n+100, 9)) {
				t.Errorf("%d bytes: changed", n)
			}
			clear(whole)
			for range 2 {
				reads(t, d, 0, text(n+100, 9)[30:30+n])
				reads(t, d, 1, text(n+100, 9)[30:30+n])
				d.Sync()
			}
		}
	}
	d := laid(t, 3)
	l := []int{0, 5, 0, 7}
	d.Write(0, []byte{1})
	d.Write(1, []byte{2})
	d.Crash(l[:1])
	d.Write(0, []byte{1})
	d.Crash(l[:2])
	if !slices.Equal(l, []int{0, 5, 0, 7}) {
		t.Error(l)
	}
	reads(t, d, 1, nil)
}

// R3: what is handed out is new memory, with its spare room too.
func TestHandedOut(t *testing.T) {
	for _, n := range lengths {
		d := laid(t, 3)
		d.Write(0, text(n, 10))
		d.Tamper(1, text(n, 11))
		for round := range 4 {
			for i := range 2 {
				b, _ := d.Read(i)
				again, _ := d.Read(i)
				b = b[:cap(b)]
				clear(b)
				reads(t, d, i, text(n, int64(10+i)))
				if !bytes.Equal(again, text(n, int64(10+i))) {
					t.Errorf("%d bytes: written over", n)
				}
			}
			switch round {
			case 0:
				d.Crash([]int{1})
			case 1:
				d.Write(1, text(n, 11))
			case 2:
				d.Sync()
			}
		}
	}
	d := laid(t, 8)
	for i := range 5 {
		d.Write(i, nil)
	}
	l, again := d.Dirty(), d.Dirty()
	l = l[:cap(l)]
	clear(l)
	if !slices.Equal(again, []int{0, 1, 2, 3, 4}) {
		t.Error(again)
	}
	dirty(t, d, 0, 1, 2, 3, 4)
}

// sector is one of the plain disk.
type sector struct {
	lasts, cached []byte
	dirty         bool
	reads         int
}

// plain is what the chapter words, by a list of sectors alone.
type plain struct {
	sectors []sector
	writes  int
	armed   bool
	left    int
	down    bool
}

func (p *plain) operation(e api.Errno) api.Errno {
	if p.down || e == api.OK && p.armed && p.left == 0 {
		p.down = true
		return api.ErrDown
	}
	if e == api.OK && p.armed {
		p.left--
	}
	return e
}

func (p *plain) wrong(i, n int) api.Errno {
	if i < 0 || i >= len(p.sectors) {
		return api.ErrRange
	}
	if n > 1024 {
		return api.ErrLong
	}
	return api.OK
}

func (p *plain) write(i int, b []byte) api.Errno {
	e := p.operation(p.wrong(i, len(b)))
	if e == api.OK {
		p.sectors[i].cached, p.sectors[i].dirty = bytes.Clone(b), true
		p.writes++
	}
	return e
}

func (p *plain) sync() api.Errno {
	e := p.operation(api.OK)
	for i := range p.sectors {
		if s := &p.sectors[i]; e == api.OK && s.dirty {
			s.lasts, s.dirty = s.cached, false
		}
	}
	return e
}

func (p *plain) tamper(i int, b []byte) api.Errno {
	e := p.wrong(i, len(b))
	if e == api.OK {
		p.sectors[i].lasts, p.sectors[i].dirty = bytes.Clone(b), false
	}
	return e
}

func (p *plain) arm(n int) { p.armed, p.left = n >= 0, n }

func (p *plain) crash(l []int) {
	for i := range p.sectors {
		s := &p.sectors[i]
		if !s.dirty {
			continue
		}
		if len(l) > 0 {
			if l[0] != 0 {
				s.lasts = s.cached
			}
			l = l[1:]
		}
		s.dirty = false
	}
	p.armed, p.down = false, false
}

func (p *plain) read(i int) ([]byte, api.Errno) {
	if e := p.wrong(i, 0); e != api.OK {
		return nil, e
	}
	s := &p.sectors[i]
	s.reads++
	if s.dirty {
		return s.cached, api.OK
	}
	return s.lasts, api.OK
}

// same tells of a disk that is not as the plain one, without reading a sector.
func same(t *testing.T, d *disk.Disk, p *plain) {
	t.Helper()
	var want []int
	for i, s := range p.sectors {
		if s.dirty {
			want = append(want, i)
		}
		if d.Reads(i) != s.reads {
			t.Fatalf("Reads(%d): %d, not %d", i, d.Reads(i), s.reads)
		}
	}
	if d.Len() != len(p.sectors) || d.Down() != p.down || d.Writes() != p.writes || !slices.Equal(d.Dirty(), want) {
		t.Fatalf("%d, %v, %d, %v, not %d, %v, %d, %v", d.Len(), d.Down(), d.Writes(), d.Dirty(), len(p.sectors), p.down, p.writes, want)
	}
}

// All promises: calls by chance answer what the plain disk answers, and leave it alike.
func TestChance(t *testing.T) {
	for seed := range 150 {
		r := rand.New(rand.NewSource(int64(seed)))
		n := 1 + r.Intn(12)
		d, p := laid(t, n), &plain{sectors: make([]sector, n)}
		for step := range 1000 {
			i, b := r.Intn(n), make([]byte, r.Intn(6))
			r.Read(b)
			if r.Intn(10) == 0 {
				i = []int{-1, n, math.MinInt, math.MaxInt}[r.Intn(4)]
			}
			if r.Intn(10) == 0 {
				b = make([]byte, 1023+r.Intn(4))
			}
			l := make([]int, r.Intn(n+4))
			for k := range l {
				l[k] = r.Intn(4) - 2
			}
			got, want := api.OK, api.OK
			switch k := r.Intn(40); {
			case k < 18:
				got, want = d.Write(i, b), p.write(i, b)
			case k < 28:
				x, e := d.Read(i)
				y, f := p.read(i)
				if got, want = e, f; !bytes.Equal(x, y) {
					t.Fatalf("seed %d, step %d: Read(%d): %x, not %x", seed, step, i, x, y)
				}
			case k < 30:
				got, want = d.Sync(), p.sync()
			case k < 33:
				got, want = d.Spend(), p.operation(api.OK)
			case k < 36:
				got, want = d.Tamper(i, b), p.tamper(i, b)
			case k < 38:
				k = r.Intn(12) - 2
				d.Arm(k)
				p.arm(k)
			default:
				d.Crash(l)
				p.crash(l)
			}
			if got != want {
				t.Fatalf("seed %d, step %d: %d, not %d", seed, step, got, want)
			}
			same(t, d, p)
		}
	}
}

// R4: what is done alike is answered alike, whatever the order in which a cache is gone through.
func TestAlike(t *testing.T) {
	var first []byte
	for round := range 20 {
		d := laid(t, 64)
		for i := range 64 {
			d.Write(i*37%64, []byte{byte(i)})
		}
		l := make([]int, 64)
		for k := range l {
			l[k] = k % 3
		}
		d.Crash(l)
		var all []byte
		for i := range 64 {
			b, _ := d.Read(i)
			all = append(append(all, byte(len(b))), b...)
		}
		if round == 0 {
			first = all
		}
		if !bytes.Equal(all, first) {
			t.Errorf("%x, not %x", all, first)
		}
	}
}
