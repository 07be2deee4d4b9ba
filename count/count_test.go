package count_test

import (
	"bytes"
	"math"
	"math/rand"
	"slices"
	"testing"

	"rill/api"
	"rill/count"
	"rill/disk"
)

// top is MaxNumber times 2^TryBits, written out.
const top = 1152921504606846976

// mostTries is 2^TryBits - 1, written out.
const mostTries = 1048575

// values are numbers that a counter may be raised to, about the ends of bytes, of tries and of all of them.
var values = []int{1, 2, 5, 255, 256, 65535, 65536, mostTries - 1, mostTries, mostTries + 1, mostTries + 2, 2*mostTries + 2, 2097155, 1<<31 - 1, 1 << 31, 1<<32 - 1, 1 << 32, 1<<32 + 1, 1 << 40, 1<<40 + 1, 1<<53 + 1, 1 << 59, top - mostTries - 1, top - mostTries, top - 2, top - 1, top}

// beyond are numbers that it may not be raised to, whatever it has.
var beyond = []int{top + 1, top + 2, top + mostTries, top + mostTries + 1, 2*top - 1, 2 * top, 2*top + 7, math.MaxInt - 1, math.MaxInt}

// below are numbers below 0.
var below = []int{-1, -2, -5, -256, -mostTries, -mostTries - 1, -mostTries - 2, -1 << 32, -1<<32 + 1, -1 << 40, -top + 1, -top, -top - 1, math.MinInt + 1, math.MinInt}

// levels are those that may be.
var levels = []int{0, 1, 2, 3, 255, 256, mostTries, mostTries + 1, 1<<32 - 1, 1 << 32, 1 << 39, api.MaxNumber - 2, api.MaxNumber - 1, api.MaxNumber}

// tries are those that may be.
var tries = []int{0, 1, 2, 3, 255, 256, 65535, 65536, 1 << 19, mostTries - 1, mostTries}

// laid is a new disk of four sectors; the test is told if there is none.
func laid(t *testing.T) *disk.Disk {
	t.Helper()
	d, e := disk.New(4)
	if e != api.OK {
		t.Fatal("disk", e)
	}
	return d
}

// at is a counter that has a value.
func at(t *testing.T, d *disk.Disk, v int) *count.Count {
	t.Helper()
	k := count.New(d)
	if k == nil {
		t.Fatal("no counter")
	}
	if v != 0 {
		raised(t, k, v)
	}
	has(t, k, v)
	return k
}

// has tells of a counter that has another value.
func has(t *testing.T, k *count.Count, want int) {
	t.Helper()
	for range 2 {
		if v := k.Value(); v != want {
			t.Errorf("Value: %d, not %d", v, want)
		}
	}
}

// raised tells of a counter that is not raised to a value.
func raised(t *testing.T, k *count.Count, to int) {
	t.Helper()
	if e := k.Raise(to); e != api.OK {
		t.Errorf("Raise(%d): %d", to, e)
	}
	has(t, k, to)
}

// refused tells of a counter that is raised to a value, or refuses it for something else.
func refused(t *testing.T, k *count.Count, to int, want api.Errno) {
	t.Helper()
	was := k.Value()
	if e := k.Raise(to); e != want {
		t.Errorf("Raise(%d) at %d: %d, not %d", to, was, e, want)
	}
	has(t, k, was)
}

// answers tells of an error that is not the one that should be.
func answers(t *testing.T, got, want api.Errno) {
	t.Helper()
	if got != want {
		t.Errorf("%d, not %d", got, want)
	}
}

// power tells of a disk of which the power is not as it should be.
func power(t *testing.T, d *disk.Disk, down bool) {
	t.Helper()
	if d.Down() != down {
		t.Errorf("Down: %v", d.Down())
	}
}

// left tells of a disk that is not armed for just n operations more; its power has failed behind it.
func left(t *testing.T, d *disk.Disk, n int) {
	t.Helper()
	for i := range n {
		if e := d.Spend(); e != api.OK {
			t.Errorf("operation %d of %d: %d", i, n, e)
		}
	}
	power(t, d, false)
	answers(t, d.Spend(), api.ErrDown)
	power(t, d, true)
}

// wrong are numbers that a counter at v may not be raised to.
func wrong(v int) []int {
	l := slices.Concat(below, beyond, []int{0, v, v - 1, v / 2, v - v%1048576})
	for _, x := range values {
		if x < v {
			l = append(l, x)
		}
	}
	return l
}

// The chapter's examples.
func TestExamples(t *testing.T) {
	d := laid(t)
	k := count.New(d)
	has(t, k, 0)
	answers(t, k.Raise(5), api.OK)
	answers(t, k.Raise(5), api.ErrOrder)
	has(t, k, 5)

	d.Arm(0)
	answers(t, k.Raise(6), api.ErrDown)
	d.Crash(nil)
	has(t, k, 5)
	answers(t, k.Raise(6), api.OK)

	v := count.Make(2, 3)
	if v != 2097155 || count.Level(v) != 2 || count.Tries(v) != 3 || count.Make(-1, -1) != 0 {
		t.Error(v, count.Level(v), count.Tries(v), count.Make(-1, -1))
	}
}

// P8.1: a counter is new at 0, on any disk: one that was written to, is armed, or is without power; to lay it is no operation.
func TestNew(t *testing.T) {
	for _, n := range []int{1, 4, api.MaxSectors} {
		d, _ := disk.New(n)
		at(t, d, 0)
		d.Write(0, []byte{1})
		d.Sync()
		d.Arm(2)
		at(t, d, 0)
		left(t, d, 2)
		k := at(t, d, 0)
		power(t, d, true)
		refused(t, k, 1, api.ErrDown)
		d.Crash(nil)
		raised(t, k, 1)
		at(t, d, 0)
	}
}

// P8.1: Value is no operation, and goes without power, too.
func TestValue(t *testing.T) {
	for _, v := range append(values, 0) {
		d := laid(t)
		k := at(t, d, v)
		d.Arm(1)
		for range 5 {
			has(t, k, v)
		}
		left(t, d, 1)
		for range 5 {
			has(t, k, v)
		}
		power(t, d, true)
		d.Crash(nil)
		has(t, k, v)
	}
}

// P8.2: from each value a counter is raised to each one above it, up to the greatest, one above it among them.
func TestRaise(t *testing.T) {
	for _, v := range append(values, 0) {
		for _, to := range append(values, v+1, v+2, v+1048576) {
			if to > v && to <= top {
				k := at(t, laid(t), v)
				raised(t, k, to)
				refused(t, k, to, api.ErrOrder)
				refused(t, k, v, api.ErrOrder)
			}
		}
	}
}

// P8.2: it is raised step by step, too, through all of these values.
func TestRaiseOn(t *testing.T) {
	d := laid(t)
	k := at(t, d, 0)
	for i := range 3000 {
		raised(t, k, i+1)
		refused(t, k, i+1, api.ErrOrder)
		refused(t, k, i, api.ErrOrder)
	}
	for _, v := range values {
		if v > 3000 {
			raised(t, k, v)
			refused(t, k, v-1, api.ErrOrder)
		}
	}
	refused(t, k, top+1, api.ErrOrder)
	has(t, k, top)
}

// P8.2: what is not above the value, or above the greatest, is refused, and changes nothing; it is no operation.
func TestRaiseRefused(t *testing.T) {
	for _, v := range append(values, 0) {
		d := laid(t)
		k := at(t, d, v)
		d.Arm(1)
		for _, to := range wrong(v) {
			refused(t, k, to, api.ErrOrder)
			power(t, d, false)
		}
		if v < top {
			raised(t, k, v+1)
			power(t, d, false)
			refused(t, k, v+1, api.ErrOrder)
			left(t, d, 0)
		} else {
			left(t, d, 1)
		}
	}
}

// P8.2: ErrOrder goes ahead of ErrDown: armed for none, a wrong Raise does not let the power fail; without power it is ErrOrder still.
func TestWhichError(t *testing.T) {
	for _, v := range append(values, 0) {
		d := laid(t)
		k := at(t, d, v)
		d.Arm(0)
		for _, to := range wrong(v) {
			refused(t, k, to, api.ErrOrder)
			power(t, d, false)
		}
		if v < top {
			refused(t, k, v+1, api.ErrDown)
		} else {
			answers(t, d.Spend(), api.ErrDown)
		}
		power(t, d, true)
		for _, to := range wrong(v) {
			refused(t, k, to, api.ErrOrder)
			power(t, d, true)
		}
		for _, to := range values {
			if to > v {
				refused(t, k, to, api.ErrDown)
			}
		}
		has(t, k, v)
	}
}

// P8.2: armed for n operations, just n are done, be they Raises or the disk's own; behind a crash it goes on from what it had.
func TestRaisePower(t *testing.T) {
	for n := range 30 {
		for kind := range 3 {
			d := laid(t)
			k := at(t, d, 7)
			d.Arm(n)
			v := 7
			for i := range n {
				if i%3 < kind {
					answers(t, d.Write(i%4, []byte{byte(i)}), api.OK)
				} else {
					v += 1 + i*i
					raised(t, k, v)
				}
				power(t, d, false)
			}
			for range 3 {
				refused(t, k, v+1, api.ErrDown)
				refused(t, k, top, api.ErrDown)
				power(t, d, true)
				answers(t, d.Write(0, nil), api.ErrDown)
				answers(t, d.Sync(), api.ErrDown)
			}
			d.Crash(nil)
			has(t, k, v)
			for i := range 50 {
				raised(t, k, v+1+i)
			}
			power(t, d, false)
		}
	}
}

// P8.2: a Raise that lets the power fail is not done, and the disk does nothing more either; a power that failed by the disk stops the counter.
func TestOnePower(t *testing.T) {
	d := laid(t)
	k := at(t, d, 3)
	d.Write(1, []byte{1})
	d.Arm(0)
	refused(t, k, 4, api.ErrDown)
	power(t, d, true)
	answers(t, d.Write(2, nil), api.ErrDown)
	answers(t, d.Spend(), api.ErrDown)
	d.Crash([]int{1})
	raised(t, k, 4)
	d.Arm(0)
	answers(t, d.Sync(), api.ErrDown)
	refused(t, k, 5, api.ErrDown)
	d.Crash(nil)
	raised(t, k, 5)
	d.Arm(0)
	d.Arm(-1)
	raised(t, k, 6)
	power(t, d, false)
}

// P8.2: a Raise writes no sector, reads none, and makes nothing last.
func TestDiskStays(t *testing.T) {
	d := laid(t)
	k := at(t, d, 0)
	d.Write(0, []byte{1})
	d.Sync()
	d.Write(0, []byte{2})
	d.Write(3, []byte{3})
	for i := range 10 {
		raised(t, k, 1+i*1000000)
		refused(t, k, 1, api.ErrOrder)
		if l := d.Dirty(); !slices.Equal(l, []int{0, 3}) || d.Writes() != 3 {
			t.Error(l, d.Writes())
		}
	}
	d.Crash(nil)
	for i, want := range [][]byte{{1}, nil, nil, nil} {
		if b, e := d.Read(i); e != api.OK || !bytes.Equal(b, want) || d.Reads(i) != 1 {
			t.Errorf("Read(%d): %x, %d, %d", i, b, e, d.Reads(i))
		}
	}
	has(t, k, 9000001)
}

// P8.1, P8.2: counters have nothing in common but the power of one disk; counters of unlike disks have nothing.
func TestApart(t *testing.T) {
	d, far := laid(t), laid(t)
	a, b, c := at(t, d, 0), at(t, d, 0), at(t, far, 0)
	raised(t, a, 9)
	has(t, b, 0)
	raised(t, b, 4)
	raised(t, c, 2)
	has(t, a, 9)
	d.Arm(2)
	raised(t, a, 10)
	raised(t, b, 5)
	refused(t, a, 11, api.ErrDown)
	refused(t, b, 6, api.ErrDown)
	raised(t, c, 3)
	power(t, far, false)
	far.Arm(0)
	refused(t, c, 4, api.ErrDown)
	d.Crash(nil)
	raised(t, a, 11)
	raised(t, b, 6)
	refused(t, c, 4, api.ErrDown)
	far.Crash(nil)
	raised(t, c, 4)
	has(t, a, 11)
	has(t, b, 6)
}

// value is what P8.3 words.
func value(level, tries int) int {
	switch {
	case level < 0:
		level = 0
	case level > 1099511627776:
		level = 1099511627776
	}
	switch {
	case tries < 0:
		tries = 0
	case tries > 1048575:
		tries = 1048575
	}
	return level*1048576 + tries
}

// P8.3: levels and tries in their place, below it and above it, each with each.
func TestMake(t *testing.T) {
	highLevels := []int{api.MaxNumber + 1, api.MaxNumber + 5, 2 * api.MaxNumber, 1 << 43, 1<<44 - 1, 1 << 44, 1<<44 + 1, 1 << 62, math.MaxInt - 1, math.MaxInt}
	highTries := []int{mostTries + 1, mostTries + 2, 2*mostTries + 1, 2*mostTries + 2, 1 << 32, api.MaxNumber, top, math.MaxInt - 1, math.MaxInt}
	for _, level := range slices.Concat(levels, below, highLevels) {
		for _, n := range slices.Concat(tries, below, highTries) {
			if v := count.Make(level, n); v != value(level, n) {
				t.Errorf("Make(%d, %d): %d, not %d", level, n, v, value(level, n))
			}
		}
	}
}

// P8.3: the ends, written out.
func TestMakeEnds(t *testing.T) {
	for _, x := range [][3]int{
		{0, 0, 0},
		{0, 1, 1},
		{1, 0, 1048576},
		{0, mostTries, 1048575},
		{0, mostTries + 1, 1048575},
		{1, mostTries, 2097151},
		{1, mostTries + 1, 2097151},
		{-1, 7, 7},
		{7, -1, 7340032},
		{-1, math.MaxInt, 1048575},
		{api.MaxNumber - 1, mostTries, top - 1},
		{api.MaxNumber, 0, top},
		{api.MaxNumber, -1, top},
		{api.MaxNumber + 1, 0, top},
		{api.MaxNumber, mostTries, 1152921504607895551},
		{math.MaxInt, math.MaxInt, 1152921504607895551},
		{math.MaxInt, math.MinInt, top},
		{math.MinInt, math.MaxInt, 1048575},
		{math.MinInt, math.MinInt, 0},
	} {
		if v := count.Make(x[0], x[1]); v != x[2] {
			t.Errorf("Make(%d, %d): %d, not %d", x[0], x[1], v, x[2])
		}
	}
}

// parts tells of a value of which the level, or the tries, is another.
func parts(t *testing.T, v, level, tries int) {
	t.Helper()
	if l, n := count.Level(v), count.Tries(v); l != level || n != tries {
		t.Errorf("%d: level %d, tries %d, not %d, %d", v, l, n, level, tries)
	}
}

// P8.3: Level and Tries of any value; those above what Make answers are divided just so; below 0 both are 0.
func TestParts(t *testing.T) {
	for _, x := range [][3]int{
		{0, 0, 0},
		{1, 0, 1},
		{1048575, 0, 1048575},
		{1048576, 1, 0},
		{1048577, 1, 1},
		{2097151, 1, 1048575},
		{2097152, 2, 0},
		{2097155, 2, 3},
		{top - 1, 1099511627775, 1048575},
		{top, 1099511627776, 0},
		{top + mostTries, 1099511627776, 1048575},
		{top + mostTries + 1, 1099511627777, 0},
		{2*top + 5, 2199023255552, 5},
		{math.MaxInt - 1, 8796093022207, 1048574},
		{math.MaxInt, 8796093022207, 1048575},
	} {
		parts(t, x[0], x[1], x[2])
	}
	for _, v := range below {
		parts(t, v, 0, 0)
	}
	r := rand.New(rand.NewSource(1))
	for range 100000 {
		v := r.Int() >> r.Intn(63)
		level, n := count.Level(v), count.Tries(v)
		if level < 0 || n < 0 || n > mostTries || level*1048576+n != v {
			t.Fatalf("%d: level %d, tries %d", v, level, n)
		}
		parts(t, -v-1, 0, 0)
	}
}

// P8.5: Level and Tries of Make are what it was made of, if that was in its place.
func TestBack(t *testing.T) {
	for _, level := range levels {
		for _, n := range tries {
			parts(t, count.Make(level, n), level, n)
		}
	}
	r := rand.New(rand.NewSource(2))
	for range 100000 {
		level, n := r.Intn(api.MaxNumber+1)>>r.Intn(41), r.Intn(mostTries+1)>>r.Intn(21)
		parts(t, count.Make(level, n), level, n)
	}
}

// P8.5: of two values the one with the greater level is the greater one, whatever their tries; of one level the one with more tries.
func TestOrder(t *testing.T) {
	for i, low := range levels {
		for _, high := range levels[i+1:] {
			for _, a := range tries {
				for _, b := range tries {
					if count.Make(low, a) >= count.Make(high, b) {
						t.Errorf("(%d, %d), (%d, %d)", low, a, high, b)
					}
				}
			}
		}
		for j, a := range tries {
			for _, b := range tries[j+1:] {
				if count.Make(low, a) >= count.Make(low, b) {
					t.Errorf("(%d, %d), (%d, %d)", low, a, low, b)
				}
			}
		}
	}
}

// P8.2, P8.3: a counter is raised by levels and tries; of the last level no tries are left to be raised to.
func TestRaiseLevels(t *testing.T) {
	k := at(t, laid(t), 0)
	for _, level := range levels {
		for _, n := range tries {
			v := count.Make(level, n)
			switch {
			case v == 0:
			case level == api.MaxNumber && n > 0:
				refused(t, k, v, api.ErrOrder)
			default:
				raised(t, k, v)
				parts(t, k.Value(), level, n)
			}
		}
	}
	has(t, k, top)
}

// plain is what the chapter words of a counter, and chapter 7 of the power.
type plain struct {
	value int
	armed bool
	left  int
	down  bool
}

func (p *plain) spend() api.Errno {
	if p.down || p.armed && p.left == 0 {
		p.down = true
		return api.ErrDown
	}
	if p.armed {
		p.left--
	}
	return api.OK
}

func (p *plain) raise(to int) api.Errno {
	if to <= p.value || to > 1152921504606846976 {
		return api.ErrOrder
	}
	e := p.spend()
	if e == api.OK {
		p.value = to
	}
	return e
}

// chosen is a number by chance, often one about a value.
func chosen(r *rand.Rand, v int) int {
	switch k := r.Intn(10); {
	case k < 3:
		return v - 2 + r.Intn(5)
	case k < 7:
		return v + r.Intn(1<<r.Intn(57)+1)
	case k < 8:
		return values[r.Intn(len(values))]
	case k < 9:
		return beyond[r.Intn(len(beyond))]
	}
	return below[r.Intn(len(below))]
}

// P8.1, P8.2, P8.4: whatever is done with the disk, the counter answers what the plain one does, never falls, and is the greatest that was raised with OK.
func TestChance(t *testing.T) {
	for seed := range 200 {
		r := rand.New(rand.NewSource(int64(seed)))
		d, p, greatest := laid(t), &plain{}, 0
		k := at(t, d, 0)
		for step := range 500 {
			i, b := r.Intn(4), []byte{byte(step)}
			got, want := api.OK, api.OK
			switch n := r.Intn(30); {
			case n < 16:
				to := chosen(r, p.value)
				if got, want = k.Raise(to), p.raise(to); got == api.OK {
					greatest = max(greatest, to)
				}
			case n < 19:
				got, want = d.Write(i, b), p.spend()
			case n < 20:
				got, want = d.Sync(), p.spend()
			case n < 21:
				got, want = d.Spend(), p.spend()
			case n < 22:
				d.Tamper(i, b)
			case n < 23:
				d.Read(i)
			case n < 26:
				n = r.Intn(9) - 2
				d.Arm(n)
				p.armed, p.left = n >= 0, n
			default:
				d.Crash([]int{r.Intn(2), r.Intn(2), r.Intn(2)})
				p.armed, p.down = false, false
			}
			if got != want || k.Value() != p.value || k.Value() != greatest || d.Down() != p.down {
				t.Fatalf("seed %d, step %d: %d, %d, %v, not %d, %d, %v; the greatest: %d", seed, step, got, k.Value(), d.Down(), want, p.value, p.down, greatest)
			}
		}
	}
}
