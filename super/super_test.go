package super_test

import (
	"bytes"
	"crypto/sha256"
	"encoding/binary"
	"encoding/hex"
	"math"
	"math/rand"
	"slices"
	"strings"
	"testing"

	"rill/api"
	"rill/disk"
	"rill/names"
	"rill/seal"
	"rill/super"
)

// size is how many bytes a geometry has.
const size = 24

// far are numbers that are out of every place, among them those that wrap round into one when they are cut, or reckoned with.
var far = []int{
	-1, -2, -18, -32, -64, -255, -1 << 31, -1<<31 + 18, -1 << 32, -1<<32 + 18, -1<<32 + 32, -1 << 40, -1 << 59, -1<<59 + 1, -1 << 62, -1<<62 + 4,
	-math.MaxInt, math.MinInt, math.MinInt + 1, math.MinInt + 4, math.MinInt + 18, math.MinInt + 32,
	255, 256, 256 + 18, 4096, 1<<16 + 32, 1<<31 - 1, 1 << 31, 1 << 32, 1<<32 + 4, 1<<32 + 18, 1<<32 + 32, 1 << 40, 1 << 59, 1<<59 + 1, 1<<61 + 3, 1 << 62, 1<<62 + 4, 3 << 61,
	math.MaxInt - 32, math.MaxInt - 1, math.MaxInt,
}

// noEpochs are epochs that may not be.
var noEpochs = []int{
	-1, -2, -1 << 32, -1<<32 + 5, -1 << 40, -1<<40 + 1, math.MinInt, math.MinInt + 1, math.MinInt + 7,
	1<<40 + 1, 1<<40 + 2, 1 << 41, 1<<48 + 5, 1<<56 + 3, 1 << 62, math.MaxInt - 1, math.MaxInt,
}

// epochs are some that may be.
var epochs = []int{0, 1, 2, 5, 255, 256, 1<<32 + 1, 1<<40 - 1, 1 << 40}

// g names a geometry by its numbers.
func g(segs, slots, blocks int) api.Geo { return api.Geo{Segs: segs, Slots: slots, Blocks: blocks} }

// small is the chapter's.
var small = g(18, 32, 4)

// ordinary are geometries that may be, also with as many blocks as there is room for.
func ordinary() []api.Geo {
	return []api.Geo{small, g(17, 32, 4), g(32, 64, 64), g(32, 64, 1), g(16, 51, 1), g(16, 64, 3), g(32, 32, 60), g(20, 40, 8), g(24, 64, 63), g(25, 64, 64), g(31, 63, 33)}
}

// plainMost is how many blocks there may be beside so many segments of so many slots, as chapter 10 words it; 0: there is no such geometry.
func plainMost(segs, slots int) int {
	if segs < 16 || segs > 32 || slots < 32 || slots > 64 {
		return 0
	}
	lean := 0
	for 5*(lean+1) <= slots-1 {
		lean++
	}
	most := 0
	for b := 1; b <= 64; b++ {
		need := 0
		for need*(slots-1) < 4*b {
			need++
		}
		if b+9 < (segs-need-14)*(lean+1) {
			most = b
		}
	}
	return most
}

// plainCheck is what chapter 10's words say of a geometry; where so many blocks may be, fewer may: the need does not fall with a block more.
func plainCheck(x api.Geo) api.Errno {
	if x.Blocks < 1 || x.Blocks > plainMost(x.Segs, x.Slots) {
		return api.ErrGeo
	}
	return api.OK
}

// plainBytes are a geometry's bytes, whether it may be or not; Go's own package has the numbers.
func plainBytes(x api.Geo) []byte {
	var b []byte
	for _, n := range []int{x.Segs, x.Slots, x.Blocks} {
		b = binary.BigEndian.AppendUint64(b, uint64(n))
	}
	return b
}

// plainGet is what the chapter's words say of Get.
func plainGet(b []byte) (api.Geo, api.Errno) {
	switch {
	case len(b) < size:
		return api.Geo{}, api.ErrForm
	case len(b) > size:
		return api.Geo{}, api.ErrLong
	}
	number := func(at int) int { return int(binary.BigEndian.Uint64(b[at:])) }
	x := g(number(0), number(8), number(16))
	if e := plainCheck(x); e != api.OK {
		return api.Geo{}, e
	}
	return x, api.OK
}

// wrong are geometries that may not be: each number one beyond its ends, and far out; no room for the last block.
func wrong() []api.Geo {
	l := []api.Geo{
		{}, g(1, 1, 1), g(15, 64, 1), g(33, 64, 1), g(32, 31, 1), g(32, 65, 1), g(32, 64, 0), g(32, 64, 65),
		g(17, 32, 5), g(17, 32, 6), g(16, 31, 1), g(16, 32, 1), g(16, 50, 1), g(16, 51, 2), g(16, 64, 4), g(18, 32, 8), g(32, 32, 61), g(24, 64, 64),
	}
	for _, v := range far {
		l = append(l, g(v, 32, 4), g(18, v, 4), g(18, 32, v), g(v, 64, 64), g(32, v, 64), g(32, 64, v), g(v, v, v), g(v, v, 4), g(18, v, v), g(v, 32, v))
	}
	return l
}

// may tells of a geometry that is refused, or is not put and got as the chapter words it; the answer are its bytes.
func may(t *testing.T, x api.Geo) []byte {
	t.Helper()
	want := plainBytes(x)
	b, e := super.Put(x)
	if e != api.OK || !bytes.Equal(b, want) || len(b) != size {
		t.Fatalf("Put %v: %x, %d, not %x", x, b, e, want)
	}
	gets(t, b, x)
	return b
}

// gets tells of bytes that are not this geometry, or are not made again of it.
func gets(t *testing.T, b []byte, x api.Geo) {
	t.Helper()
	got, e := super.Get(b)
	if got != x || e != api.OK {
		t.Errorf("Get %x: %v, %d, not %v", b, got, e, x)
	}
	if again, e := super.Put(got); e != api.OK || !bytes.Equal(again, b) {
		t.Errorf("Put of Get: %x, %d, not %x", again, e, b)
	}
}

// mayNot tells of a geometry that is not refused with ErrGeo alone, put or got.
func mayNot(t *testing.T, x api.Geo) {
	t.Helper()
	if b, e := super.Put(x); e != api.ErrGeo || b != nil {
		t.Errorf("Put %v: %x, %d", x, b, e)
	}
	getsNone(t, plainBytes(x), api.ErrGeo)
}

// is tells of a geometry that is not taken, or not refused, as this error says.
func is(t *testing.T, x api.Geo, want api.Errno) {
	t.Helper()
	if want == api.OK {
		may(t, x)
	} else {
		mayNot(t, x)
	}
}

// getsNone tells of a call of Get that does not answer an error alone.
func getsNone(t *testing.T, b []byte, want api.Errno) {
	t.Helper()
	if x, e := super.Get(b); e != want || x != (api.Geo{}) {
		t.Errorf("Get %x: %v, %d, not %d", b, x, e, want)
	}
}

// stands tells of bytes, whatever they are, of which Get does not tell what the chapter's words say.
func stands(t *testing.T, b []byte) {
	t.Helper()
	if x, e := plainGet(b); e == api.OK {
		gets(t, b, x)
	} else {
		getsNone(t, b, e)
	}
}

// The chapter's examples.
func TestExamples(t *testing.T) {
	if b := may(t, small); len(b) != 24 {
		t.Errorf("%d bytes", len(b))
	}
	mayNot(t, g(1, 1, 1))
	getsNone(t, plainBytes(small)[:23], api.ErrForm)
	getsNone(t, append(plainBytes(small), 0), api.ErrLong)
	for _, c := range crypts() {
		d := laid(t, 9)
		readsNone(t, d, c, api.ErrNone)
		s := writes(t, d, c, 5, small)
		reads(t, d, c, small, s)
	}
	c := names.New()
	d := laid(t, 9)
	s := writes(t, d, c, 5, small)
	was, _ := d.Read(0)
	for i := range was {
		b := bytes.Clone(was)
		b[i] ^= 1
		lays(t, d, b)
		readsNone(t, d, c, api.ErrTamper)
	}
	lays(t, d, was)
	reads(t, d, c, small, s)
}

// P15.1: geometries written out.
func TestWritten(t *testing.T) {
	for _, x := range []struct {
		geo  api.Geo
		want string
	}{
		{g(18, 32, 4), "000000000000001200000000000000200000000000000004"},
		{g(32, 64, 63), "00000000000000200000000000000040000000000000003f"},
		{g(16, 51, 1), "000000000000001000000000000000330000000000000001"},
		{g(32, 32, 60), "00000000000000200000000000000020000000000000003c"},
	} {
		if b := hex.EncodeToString(may(t, x.geo)); b != x.want {
			t.Errorf("%s, not %s", b, x.want)
		}
	}
}

// P15.1, P15.4: ordinary geometries, there and back.
func TestOrdinary(t *testing.T) {
	for _, x := range ordinary() {
		if plainCheck(x) != api.OK {
			t.Fatalf("%v", x)
		}
		may(t, x)
	}
}

// P15.1: all geometries about the limits: just those are taken that chapter 10 words.
func TestCheck(t *testing.T) {
	taken := 0
	for segs := 14; segs < 35; segs++ {
		for slots := 30; slots < 67; slots++ {
			most := plainMost(segs, slots)
			for b := -1; b < 67; b++ {
				if b >= 1 && b <= most {
					may(t, g(segs, slots, b))
					taken++
				} else {
					mayNot(t, g(segs, slots, b))
				}
			}
		}
	}
	if taken < 10000 {
		t.Errorf("%d taken", taken)
	}
}

// P15.1: each number at its least and its greatest, one less and one more, beside others that may be.
func TestLimits(t *testing.T) {
	for _, x := range []struct {
		geo  api.Geo
		code api.Errno
	}{
		{g(api.MinSegs, 64, 1), api.OK}, {g(api.MinSegs-1, 64, 1), api.ErrGeo}, {g(api.MinSegs+1, 64, 1), api.OK},
		{g(api.MaxSegs, 64, 1), api.OK}, {g(api.MaxSegs-1, 64, 1), api.OK}, {g(api.MaxSegs+1, 64, 1), api.ErrGeo},
		{g(32, api.MinSlots, 1), api.OK}, {g(32, api.MinSlots-1, 1), api.ErrGeo}, {g(32, api.MinSlots+1, 1), api.OK},
		{g(32, api.MaxSlots, 1), api.OK}, {g(32, api.MaxSlots-1, 1), api.OK}, {g(32, api.MaxSlots+1, 1), api.ErrGeo},
		{g(32, 64, 1), api.OK}, {g(32, 64, 0), api.ErrGeo}, {g(32, 64, 2), api.OK},
		{g(32, 64, api.MaxBlocks), api.OK}, {g(32, 64, api.MaxBlocks-1), api.OK}, {g(32, 64, api.MaxBlocks+1), api.ErrGeo},
	} {
		is(t, x.geo, x.code)
	}
}

// P15.1: geometries written out that have just the room that they need, and with a block too many; where there is none, one is too many.
func TestRoom(t *testing.T) {
	for _, x := range []struct{ segs, slots, most int }{
		{16, 32, 0}, {16, 50, 0}, {16, 51, 1}, {16, 55, 1}, {16, 56, 2}, {16, 61, 3}, {16, 64, 3},
		{17, 32, 4}, {17, 36, 6}, {17, 64, 15}, {18, 32, 7}, {18, 33, 8}, {18, 64, 16}, {19, 32, 11},
		{24, 32, 31}, {28, 32, 46}, {29, 32, 46}, {32, 32, 60}, {20, 64, 31}, {24, 64, 63}, {25, 64, 64}, {32, 64, 64},
	} {
		if x.most > 0 {
			may(t, g(x.segs, x.slots, x.most))
		}
		mayNot(t, g(x.segs, x.slots, x.most+1))
	}
}

// P15.1: geometries that may not be, among them those with the greatest and the least numbers.
func TestWrong(t *testing.T) {
	for _, x := range wrong() {
		if plainCheck(x) == api.OK {
			t.Fatalf("%v", x)
		}
		mayNot(t, x)
	}
}

// P15.1: each beginning of a superblock's bytes, with the others lying behind or not: there are too few; and each end of them.
func TestFewer(t *testing.T) {
	for _, x := range ordinary() {
		b := may(t, x)
		for n := range size {
			getsNone(t, b[:n], api.ErrForm)
			getsNone(t, bytes.Clone(b[:n]), api.ErrForm)
			if n > 0 {
				getsNone(t, b[n:], api.ErrForm)
			}
		}
	}
	for _, none := range [][]byte{nil, {}, make([]byte, 0, 100)} {
		getsNone(t, none, api.ErrForm)
	}
}

// P15.1: bytes behind a superblock's: one, a number's, another superblock's.
func TestMore(t *testing.T) {
	for _, x := range ordinary() {
		b := may(t, x)
		for _, more := range [][]byte{{0}, {1}, {255}, make([]byte, 7), make([]byte, 8), make([]byte, 32), plainBytes(small), b, make([]byte, 5000)} {
			getsNone(t, slices.Concat(b, more), api.ErrLong)
		}
	}
	for n := size + 1; n < 1100; n++ {
		getsNone(t, make([]byte, n), api.ErrLong)
	}
	getsNone(t, make([]byte, 1<<20), api.ErrLong)
}

// P15.1: the bytes' number is asked ahead of what they say.
func TestFirst(t *testing.T) {
	for _, x := range wrong() {
		b := plainBytes(x)
		getsNone(t, b, api.ErrGeo)
		for n := range size {
			getsNone(t, b[:n], api.ErrForm)
		}
		for _, more := range [][]byte{{0}, {255}, make([]byte, 8), plainBytes(small), b} {
			getsNone(t, slices.Concat(b, more), api.ErrLong)
		}
	}
	for n, want := range map[int]api.Errno{23: api.ErrForm, 24: api.ErrGeo, 25: api.ErrLong} {
		getsNone(t, make([]byte, n), want)
		getsNone(t, bytes.Repeat([]byte{255}, n), want)
	}
}

// P15.1, P15.4: each byte of a superblock's bytes turned, to each other one: another geometry, or none.
func TestTurned(t *testing.T) {
	for _, x := range ordinary() {
		b := may(t, x)
		for i := range b {
			for v := 1; v < 256; v++ {
				b[i] ^= byte(v)
				if y, e := super.Get(b); e == api.OK && y == x {
					t.Errorf("byte %d by %d: the same geometry", i, v)
				}
				stands(t, b)
				b[i] ^= byte(v)
			}
		}
		gets(t, b, x)
	}
}

// chance is a geometry by chance, which often may be.
func chance(r *rand.Rand) api.Geo {
	x := g(16+r.Intn(17), 32+r.Intn(33), 1+r.Intn(64))
	n := []*int{&x.Segs, &x.Slots, &x.Blocks}[r.Intn(3)]
	switch r.Intn(8) {
	case 0:
		*n = far[r.Intn(len(far))]
	case 1:
		*n = int(r.Uint64())
	case 2:
		*n = r.Intn(80) - 5
	}
	return x
}

// P15.1, P15.4: geometries and bytes by chance against the chapter's words made another way; unlike geometries have unlike bytes.
func TestChance(t *testing.T) {
	r := rand.New(rand.NewSource(15))
	seen := map[string]api.Geo{}
	for range 20000 {
		x := chance(r)
		want := plainCheck(x)
		is(t, x, want)
		b := plainBytes(x)
		if want == api.OK {
			if was, ok := seen[string(b)]; ok && was != x {
				t.Errorf("%v and %v: the same bytes", was, x)
			}
			seen[string(b)] = x
		}
		if r.Intn(2) == 0 {
			b[r.Intn(size)] = byte(r.Intn(256))
		} else {
			b = slices.Concat(b[:r.Intn(size)], make([]byte, r.Intn(size)))
		}
		stands(t, b)
	}
	if len(seen) < 3000 {
		t.Errorf("%d taken", len(seen))
	}
}

// crypts are new ones of both sorts.
func crypts() []api.Crypt {
	return []api.Crypt{seal.New([]byte("key")), names.New()}
}

// laid is a new disk of so many sectors.
func laid(t *testing.T, n int) *disk.Disk {
	t.Helper()
	d, e := disk.New(n)
	if e != api.OK {
		t.Fatal("New", n, e)
	}
	return d
}

// sealed are the bytes of a sector, as chapter 11 words them.
func sealed(c api.Crypt, kind, epoch, number, at int, plain []byte) []byte {
	b := binary.BigEndian.AppendUint64([]byte{byte(kind)}, uint64(epoch))
	b = binary.BigEndian.AppendUint64(b, uint64(number))
	return append(b, c.Seal(epoch, number, binary.BigEndian.AppendUint64([]byte{byte(kind)}, uint64(at)), plain)...)
}

// own are the bytes of a superblock's sector.
func own(c api.Crypt, epoch int, x api.Geo) []byte {
	return sealed(c, api.KSuper, epoch, 0, 0, plainBytes(x))
}

// shown are a disk's sectors, each with its bytes, and with whether it is dirty.
func shown(d *disk.Disk) []string {
	dirty := d.Dirty()
	l := make([]string, d.Len())
	for i := range l {
		b, _ := d.Read(i)
		l[i] = hex.EncodeToString(b)
		if slices.Contains(dirty, i) {
			l[i] += " dirty"
		}
	}
	return l
}

// writes tells of a superblock that is not written into the sector 0 alone, or synced, or whose digest is not told; the answer is the digest.
func writes(t *testing.T, d *disk.Disk, c api.Crypt, epoch int, x api.Geo) api.Sum {
	t.Helper()
	was, n := shown(d), d.Writes()
	s, e := super.Write(d, c, epoch, x)
	if e != api.OK {
		t.Fatalf("Write %d, %v: %d", epoch, x, e)
	}
	want := own(c, epoch, x)
	was[0] = hex.EncodeToString(want) + " dirty"
	if now := shown(d); !slices.Equal(now, was) {
		t.Errorf("Write %d, %v: %v, not %v", epoch, x, now, was)
	}
	if d.Writes() != n+1 {
		t.Errorf("Write %d, %v: %d writes", epoch, x, d.Writes()-n)
	}
	if s != c.Sum(want) || s == (api.Sum{}) {
		t.Errorf("Write %d, %v: %x, not %x", epoch, x, s, c.Sum(want))
	}
	return s
}

// writesNone tells of a call of Write that does not answer this error alone, or changes the disk, but its power.
func writesNone(t *testing.T, d *disk.Disk, c api.Crypt, epoch int, x api.Geo, want api.Errno) {
	t.Helper()
	was, n := shown(d), d.Writes()
	if s, e := super.Write(d, c, epoch, x); e != want || s != (api.Sum{}) {
		t.Errorf("Write %d, %v: %x, %d, not %d", epoch, x, s, e, want)
	}
	if !slices.Equal(shown(d), was) || d.Writes() != n {
		t.Errorf("Write %d, %v: the disk was changed", epoch, x)
	}
}

// quiet tells of a call that changes a disk, or its power, which is not armed.
func quiet(t *testing.T, d *disk.Disk, call func()) {
	t.Helper()
	was, n, down := shown(d), d.Writes(), d.Down()
	call()
	if !slices.Equal(shown(d), was) || d.Writes() != n || d.Down() != down {
		t.Error("Read: the disk was changed")
	}
}

// reads tells of an answer of Read that is not this geometry, with this digest, or that changes the disk.
func reads(t *testing.T, d *disk.Disk, c api.Crypt, want api.Geo, sum api.Sum) {
	t.Helper()
	quiet(t, d, func() {
		t.Helper()
		if x, s, e := super.Read(d, c); x != want || s != sum || e != api.OK {
			t.Errorf("Read: %v, %x, %d, not %v, %x", x, s, e, want, sum)
		}
	})
}

// readsNone tells of an answer of Read that is not this error alone, or that changes the disk.
func readsNone(t *testing.T, d *disk.Disk, c api.Crypt, want api.Errno) {
	t.Helper()
	quiet(t, d, func() {
		t.Helper()
		if x, s, e := super.Read(d, c); x != (api.Geo{}) || s != (api.Sum{}) || e != want {
			b, _ := d.Read(0)
			t.Errorf("Read of %x: %v, %x, %d, not %d", b, x, s, e, want)
		}
	})
}

// lays lays bytes into the sector 0, past the cache.
func lays(t *testing.T, d *disk.Disk, b []byte) {
	t.Helper()
	if e := d.Tamper(0, b); e != api.OK {
		t.Fatal("Tamper", e)
	}
}

// cut lets the power of a disk fail.
func cut(d *disk.Disk) {
	d.Arm(0)
	d.Spend()
}

// P15.2, P15.3, P15.4: ordinary geometries, in each epoch, on disks of one sector and more: written, and read.
func TestWrite(t *testing.T) {
	for _, c := range crypts() {
		for _, x := range ordinary() {
			for _, epoch := range epochs {
				for _, n := range []int{1, 2, 9} {
					d := laid(t, n)
					s := writes(t, d, c, epoch, x)
					reads(t, d, c, x, s)
				}
			}
		}
		d := laid(t, 4096)
		reads(t, d, c, small, writes(t, d, c, 1, small))
	}
}

// P15.2, P15.4: the other sectors of the disk stay as they are, dirty or not.
func TestWriteAlone(t *testing.T) {
	for _, c := range crypts() {
		d := laid(t, 5)
		for i := range 5 {
			d.Write(i, []byte{byte(i), 7})
		}
		d.Sync()
		d.Write(3, []byte("dirty"))
		d.Write(1, nil)
		s := writes(t, d, c, 2, small)
		reads(t, d, c, small, s)
		d.Crash([]int{1})
		reads(t, d, c, small, s)
		for i, want := range map[int]string{1: "\x01\x07", 2: "\x02\x07", 3: "\x03\x07", 4: "\x04\x07"} {
			if b, _ := d.Read(i); string(b) != want {
				t.Errorf("the sector %d is %x", i, b)
			}
		}
	}
}

// P15.2: the sector of a Names, written out, and the digest, 24 bytes 01 and how many were summed; with a box the digest is that of Go's own package.
func TestWriteWritten(t *testing.T) {
	d, c := laid(t, 3), names.New()
	for i, x := range []struct {
		epoch int
		geo   api.Geo
		want  string
	}{
		{5, g(18, 32, 4), "01" + "0000000000000005" + "0000000000000000" + "0000000000000012" + "0000000000000020" + "0000000000000004"},
		{1 << 40, g(32, 64, 63), "01" + "0000010000000000" + "0000000000000000" + "0000000000000020" + "0000000000000040" + "000000000000003f"},
		{0, g(16, 51, 1), "01" + "0000000000000000" + "0000000000000000" + "0000000000000010" + "0000000000000033" + "0000000000000001"},
	} {
		s, e := super.Write(d, c, x.epoch, x.geo)
		b, _ := d.Read(0)
		digit := string(rune('1' + i))
		if want := x.want + strings.Repeat("00", 31) + "0" + digit; e != api.OK || hex.EncodeToString(b) != want {
			t.Errorf("%x, %d, not %s", b, e, want)
		}
		if want := strings.Repeat("01", 24) + strings.Repeat("00", 7) + "0" + digit; hex.EncodeToString(s[:]) != want {
			t.Errorf("%x, not %s", s, want)
		}
	}
	box := seal.New([]byte("key"))
	for _, x := range ordinary() {
		s, e := super.Write(d, box, 7, x)
		b, _ := d.Read(0)
		if e != api.OK || len(b) != 17+24+32 || b[0] != 1 || s != sha256.Sum256(b) {
			t.Errorf("%x, %x, %d", b, s, e)
		}
	}
}

// P15.2: a geometry that may not be: the error of Put, ahead of the epoch's and the disk's; nothing is changed, nor does the power fail.
func TestWriteNoGeo(t *testing.T) {
	for _, c := range crypts() {
		d, down := laid(t, 4), laid(t, 4)
		s := writes(t, d, c, 3, small)
		cut(down)
		for _, x := range wrong() {
			for _, epoch := range []int{0, 5, 1 << 40, -1, 1<<40 + 1, math.MinInt, math.MaxInt} {
				d.Arm(0)
				writesNone(t, d, c, epoch, x, api.ErrGeo)
				writesNone(t, down, c, epoch, x, api.ErrGeo)
				if d.Down() {
					t.Fatal("the power has failed")
				}
			}
		}
		reads(t, d, c, small, s)
		readsNone(t, down, c, api.ErrNone)
	}
}

// P15.2: an epoch that may not be: the error of sector.Put, ahead of the disk's; nothing is changed, nor does the power fail.
func TestWriteNoEpoch(t *testing.T) {
	for _, c := range crypts() {
		d, down := laid(t, 4), laid(t, 4)
		s := writes(t, d, c, 3, small)
		cut(down)
		for _, epoch := range noEpochs {
			for _, x := range ordinary() {
				d.Arm(0)
				writesNone(t, d, c, epoch, x, api.ErrRange)
				writesNone(t, down, c, epoch, x, api.ErrRange)
				if d.Down() {
					t.Fatal("the power has failed")
				}
			}
		}
		reads(t, d, c, small, s)
		readsNone(t, down, c, api.ErrNone)
	}
}

// P15.2, R2: of what Put or sector.Put refuses a Names remembers nothing, and of what the disk refuses no digest.
func TestNothingRemembered(t *testing.T) {
	d, c := laid(t, 4), names.New()
	writesNone(t, d, c, 1, g(1, 1, 1), api.ErrGeo)
	writesNone(t, d, c, -1, small, api.ErrRange)
	writesNone(t, d, c, 1<<40+1, small, api.ErrRange)
	if b := c.Seal(1, 1, nil, nil); b[31] != 1 {
		t.Errorf("the first one sealed is %x", b)
	}
	d.Arm(0)
	writesNone(t, d, c, 1, small, api.ErrDown)
	writesNone(t, d, c, 1, small, api.ErrDown)
	if s := c.Sum([]byte("first")); s[31] != 1 {
		t.Errorf("the first one summed is %x", s)
	}
	d.Crash(nil)
	if s := writes(t, d, c, 1, small); s[31] != 2 {
		t.Errorf("the second one summed is %x", s)
	}
}

// P15.3, R2: of what Read does not take a Names sums nothing, of what it takes the digest is remembered.
func TestReadRemembers(t *testing.T) {
	d, c := laid(t, 4), names.New()
	readsNone(t, d, c, api.ErrNone)
	for _, b := range [][]byte{{1}, own(c, 5, g(1, 1, 1)), sealed(c, api.KSuper, 5, 1, 0, plainBytes(small)), sealed(c, api.KRegion, 5, 0, 0, plainBytes(small)), make([]byte, 73)} {
		lays(t, d, b)
		readsNone(t, d, c, api.ErrTamper)
	}
	want := api.Sum(bytes.Repeat([]byte{1}, 32))
	clear(want[24:31])
	lays(t, d, own(c, 5, small))
	for range 3 {
		reads(t, d, c, small, want)
	}
	if s := c.Sum(own(c, 5, small)); s != want {
		t.Errorf("%x, not %x", s, want)
	}
	if s := c.Sum([]byte("next")); s[31] != 2 {
		t.Errorf("the next one summed is %x", s)
	}
}

// P15.2: a disk whose power fails, by this call or ahead of it: ErrDown, and the elder superblock stays.
func TestWriteDown(t *testing.T) {
	for _, c := range crypts() {
		d := laid(t, 4)
		d.Arm(0)
		writesNone(t, d, c, 1, small, api.ErrDown)
		if !d.Down() {
			t.Error("the power has not failed")
		}
		writesNone(t, d, c, 1, small, api.ErrDown)
		readsNone(t, d, c, api.ErrNone)
		d.Crash([]int{1, 1})
		readsNone(t, d, c, api.ErrNone)
		s := writes(t, d, c, 1, small)
		d.Sync()
		for _, x := range ordinary() {
			d.Arm(0)
			writesNone(t, d, c, 2, x, api.ErrDown)
			writesNone(t, d, c, 3, x, api.ErrDown)
			if !d.Down() {
				t.Error("the power has not failed")
			}
			reads(t, d, c, small, s)
			d.Crash([]int{1, 1})
			reads(t, d, c, small, s)
		}
	}
}

// P15.2: a Write is just one operation, and does not sync.
func TestOneOperation(t *testing.T) {
	for _, c := range crypts() {
		d := laid(t, 4)
		d.Arm(2)
		writes(t, d, c, 1, small)
		s := writes(t, d, c, 2, small)
		writesNone(t, d, c, 3, small, api.ErrDown)
		reads(t, d, c, small, s)
		d.Crash(nil)
		readsNone(t, d, c, api.ErrNone)
		d.Arm(1)
		s = writes(t, d, c, 4, small)
		if d.Down() || d.Sync() != api.ErrDown {
			t.Error("not one operation")
		}
		reads(t, d, c, small, s)
		d.Crash([]int{1})
		reads(t, d, c, small, s)
	}
}

// P15.2: what was written lasts from the next Sync on, and not ahead of it.
func TestLasts(t *testing.T) {
	for _, c := range crypts() {
		one, two, three := small, g(32, 64, 64), g(20, 40, 8)
		d := laid(t, 4)
		writes(t, d, c, 1, one)
		d.Crash(nil)
		readsNone(t, d, c, api.ErrNone)
		s := writes(t, d, c, 1, one)
		d.Crash([]int{1})
		reads(t, d, c, one, s)
		writes(t, d, c, 2, two)
		d.Crash([]int{0})
		reads(t, d, c, one, s)
		s = writes(t, d, c, 2, two)
		d.Sync()
		reads(t, d, c, two, s)
		d.Crash(nil)
		reads(t, d, c, two, s)
		last := writes(t, d, c, 3, three)
		reads(t, d, c, three, last)
		d.Crash(nil)
		reads(t, d, c, two, s)
		writes(t, d, c, 3, three)
		d.Sync()
		d.Crash(nil)
		reads(t, d, c, three, last)
	}
}

// P15.3: a disk whose sector 0 has no bytes: none was written, none are left, or none were written; whatever stands elsewhere, with power and without.
func TestEmpty(t *testing.T) {
	for _, c := range crypts() {
		for _, n := range []int{1, 2, 4096} {
			readsNone(t, laid(t, n), c, api.ErrNone)
		}
		d := laid(t, 4)
		for i := 1; i < 4; i++ {
			d.Write(i, own(c, 1, small))
		}
		d.Sync()
		readsNone(t, d, c, api.ErrNone)
		s := writes(t, d, c, 1, small)
		d.Sync()
		d.Write(0, nil)
		readsNone(t, d, c, api.ErrNone)
		d.Crash(nil)
		reads(t, d, c, small, s)
		lays(t, d, []byte{})
		readsNone(t, d, c, api.ErrNone)
		cut(d)
		readsNone(t, d, c, api.ErrNone)
		d.Crash(nil)
		readsNone(t, d, c, api.ErrNone)
	}
}

// P15.3, P15.4: behind two Writes and more it is the last one, in any order of epochs; the same again is the same.
func TestAgain(t *testing.T) {
	for _, c := range crypts() {
		d := laid(t, 4)
		first := writes(t, d, c, 5, small)
		if s := writes(t, d, c, 4, small); s == first {
			t.Error("in another epoch: the same digest")
		} else {
			reads(t, d, c, small, s)
		}
		for i, x := range ordinary() {
			s := writes(t, d, c, 20-i, x)
			reads(t, d, c, x, s)
			d.Sync()
			reads(t, d, c, x, s)
		}
		for range 3 {
			if s := writes(t, d, c, 5, small); s != first {
				t.Errorf("the same again: %x, not %x", s, first)
			}
			reads(t, d, c, small, first)
		}
	}
}

// P15.3: without power, by each way that it fails, Read goes on, and the power stays as it is; armed, Read is no operation.
func TestWithoutPower(t *testing.T) {
	for _, c := range crypts() {
		d := laid(t, 4)
		s := writes(t, d, c, 5, small)
		d.Arm(0)
		for range 5 {
			reads(t, d, c, small, s)
		}
		d.Arm(2)
		for range 5 {
			reads(t, d, c, small, s)
		}
		if d.Spend() != api.OK || d.Spend() != api.OK || d.Spend() != api.ErrDown {
			t.Error("Read was an operation")
		}
		reads(t, d, c, small, s)
		lays(t, d, []byte("spoilt"))
		readsNone(t, d, c, api.ErrTamper)
		lays(t, d, nil)
		readsNone(t, d, c, api.ErrNone)
		lays(t, d, own(c, 5, small))
		reads(t, d, c, small, s)
		if !d.Down() {
			t.Error("the power is on")
		}
	}
}

// spoils lays bytes that are no superblock into the sector 0: Read refuses them; then the superblock's own, and they are read again.
func spoils(t *testing.T, c api.Crypt, bad func(epoch int, x api.Geo) []byte) {
	t.Helper()
	for i, x := range []api.Geo{g(20, 40, 8), small} {
		d, epoch := laid(t, 2), []int{6, 1 << 40}[i]
		s := writes(t, d, c, epoch, x)
		was, _ := d.Read(0)
		lays(t, d, bad(epoch, x))
		readsNone(t, d, c, api.ErrTamper)
		lays(t, d, was)
		reads(t, d, c, x, s)
	}
}

// P15.3, P15.5: the sector 0 with each bit turned, cut off at each byte, at either end, and with bytes behind.
func TestSpoilt(t *testing.T) {
	for _, c := range crypts() {
		n := len(own(c, 6, small))
		for bit := range 8 * n {
			spoils(t, c, func(epoch int, x api.Geo) []byte {
				b := own(c, epoch, x)
				b[bit/8] ^= 1 << (bit % 8)
				return b
			})
		}
		for at := range n {
			for _, v := range []byte{0, 1, 5, 255} {
				spoils(t, c, func(epoch int, x api.Geo) []byte {
					b := own(c, epoch, x)
					if b[at] == v {
						v ^= 1
					}
					b[at] = v
					return b
				})
			}
		}
		for k := 1; k < n; k++ {
			spoils(t, c, func(epoch int, x api.Geo) []byte { return own(c, epoch, x)[:k] })
			spoils(t, c, func(epoch int, x api.Geo) []byte { return own(c, epoch, x)[k:] })
		}
		for _, more := range []int{1, 2, 8, 31, 32, 33, 192, 951} {
			spoils(t, c, func(epoch int, x api.Geo) []byte { return append(own(c, epoch, x), make([]byte, more)...) })
		}
		for _, of := range []int{1, 16, 17, 18, 48, 49, 73, 1023, 1024} {
			for _, v := range []byte{0, 1, 255} {
				spoils(t, c, func(int, api.Geo) []byte { return bytes.Repeat([]byte{v}, of) })
			}
		}
	}
}

// P15.3, P15.5: sectors of another kind and of another place, sealed by that crypt, and those that claim to be this one.
func TestElsewhere(t *testing.T) {
	for _, c := range crypts() {
		for kind := range 8 {
			if kind == api.KSuper {
				continue
			}
			spoils(t, c, func(epoch int, x api.Geo) []byte { return sealed(c, kind, epoch, 0, 0, plainBytes(x)) })
			spoils(t, c, func(epoch int, x api.Geo) []byte {
				b := sealed(c, kind, epoch, 0, 0, plainBytes(x))
				b[0] = api.KSuper
				return b
			})
		}
		for _, at := range []int{1, 2, 3, 255, 256, 4095, 4096, -1, 1 << 40} {
			spoils(t, c, func(epoch int, x api.Geo) []byte { return sealed(c, api.KSuper, epoch, 0, at, plainBytes(x)) })
		}
	}
}

// P15.3, P15.5: sectors of another Number, sealed by that crypt; those that claim to have the Number 0, or another epoch.
func TestOtherNumber(t *testing.T) {
	for _, c := range crypts() {
		for _, number := range []int{1, 2, 6, 255, 256, 1 << 32, 1<<40 - 1, 1 << 40} {
			spoils(t, c, func(epoch int, x api.Geo) []byte { return sealed(c, api.KSuper, epoch, number, 0, plainBytes(x)) })
			spoils(t, c, func(epoch int, x api.Geo) []byte {
				b := sealed(c, api.KSuper, epoch, number, 0, plainBytes(x))
				clear(b[9:17])
				return b
			})
			spoils(t, c, func(epoch int, x api.Geo) []byte {
				b := own(c, epoch, x)
				binary.BigEndian.PutUint64(b[9:], uint64(number))
				return b
			})
		}
		for _, other := range slices.Concat(noEpochs, []int{0, 1, 7, 1<<40 - 1}) {
			spoils(t, c, func(epoch int, x api.Geo) []byte {
				b := own(c, epoch, x)
				binary.BigEndian.PutUint64(b[1:], uint64(other))
				return b
			})
		}
	}
}

// P15.3, P15.5: another key, another Names, and a crypt of the other sort.
func TestOtherCrypt(t *testing.T) {
	all := []api.Crypt{seal.New([]byte("key")), seal.New([]byte("kez")), seal.New(nil), names.New(), names.New()}
	for i, c := range all {
		d := laid(t, 4)
		s := writes(t, d, c, 100+i, small) // in one epoch one Names would have sealed what another has
		for _, other := range all {
			if other == c {
				reads(t, d, other, small, s)
			} else {
				readsNone(t, d, other, api.ErrTamper)
			}
		}
	}
	for _, c := range all {
		for k, other := range all {
			if other != c {
				spoils(t, c, func(_ int, x api.Geo) []byte { return own(other, 1000+k, x) })
			}
		}
	}
}

// P15.3, P15.5: sectors of the right kind, place and Number, sealed by that crypt, whose plain text is no geometry.
func TestNoGeometry(t *testing.T) {
	for _, c := range crypts() {
		of := func(plain []byte) {
			t.Helper()
			spoils(t, c, func(epoch int, _ api.Geo) []byte { return sealed(c, api.KSuper, epoch, 0, 0, plain) })
		}
		for _, x := range wrong() {
			of(plainBytes(x))
		}
		for n := range size {
			of(plainBytes(small)[:n])
			of(make([]byte, n))
		}
		for _, more := range []int{1, 8, 24, 32, 951} {
			of(append(plainBytes(small), make([]byte, more)...))
		}
		of([]byte("this is no geometry, no."))
	}
}

// P15.3: a superblock that stands there in whatever epoch, sealed by that crypt, is read, whoever laid it there; also an elder one.
func TestLaidBack(t *testing.T) {
	for _, c := range crypts() {
		d := laid(t, 4)
		for _, epoch := range epochs {
			for _, x := range ordinary() {
				b := own(c, epoch, x)
				lays(t, d, b)
				reads(t, d, c, x, c.Sum(b))
			}
		}
		old := writes(t, d, c, 3, small)
		elder, _ := d.Read(0)
		writes(t, d, c, 9, g(32, 64, 64))
		lays(t, d, elder)
		reads(t, d, c, small, old)
	}
}

// P15.4, P15.5: of unlike superblocks the bytes and the digests are unlike, of one and the same they are the same.
func TestDigests(t *testing.T) {
	for _, c := range crypts() {
		type one struct {
			epoch int
			geo   api.Geo
		}
		sums, texts := map[api.Sum]one{}, map[string]one{}
		d := laid(t, 1)
		for range 2 {
			for _, epoch := range epochs {
				for segs := 25; segs <= 32; segs++ {
					for _, b := range []int{1, 2, 63, 64} {
						o := one{epoch, g(segs, 64, b)}
						s := writes(t, d, c, o.epoch, o.geo)
						text, _ := d.Read(0)
						if was, ok := sums[s]; ok && was != o {
							t.Errorf("%v and %v: one digest", was, o)
						}
						if was, ok := texts[string(text)]; ok && was != o {
							t.Errorf("%v and %v: the same bytes", was, o)
						}
						sums[s], texts[string(text)] = o, o
					}
				}
			}
		}
		if want := len(epochs) * 8 * 4; len(sums) != want || len(texts) != want {
			t.Errorf("%d digests and %d texts of %d", len(sums), len(texts), want)
		}
	}
}

// trial is a disk on which things are done by chance, with what Write has made.
type trial struct {
	d    *disk.Disk
	c    api.Crypt
	r    *rand.Rand
	made map[string]api.Geo // by a sector's bytes
	seen [][]byte
}

// step does something by chance: it writes, syncs, crashes, or lays bytes of some sort into the sector 0.
func (x *trial) step(t *testing.T) {
	t.Helper()
	switch x.r.Intn(8) {
	case 0, 1, 2:
		y, epoch := chance(x.r), x.r.Intn(4)
		if plainCheck(y) != api.OK {
			writesNone(t, x.d, x.c, epoch, y, api.ErrGeo)
			return
		}
		writes(t, x.d, x.c, epoch, y)
		b, _ := x.d.Read(0)
		x.made[string(b)] = y
		x.seen = append(x.seen, b)
	case 3:
		x.d.Sync()
	case 4:
		x.d.Crash([]int{x.r.Intn(2)})
	case 5:
		lays(t, x.d, x.some())
	case 6:
		a, b := x.some(), x.some()
		k := x.r.Intn(80)
		lays(t, x.d, slices.Concat(a[:min(k, len(a))], b[min(k, len(b)):]))
	case 7:
		at := []int{0, 1, 2, 3}[x.r.Intn(4)]
		b := sealed(x.c, 1+x.r.Intn(5), x.r.Intn(4), 1+x.r.Intn(2), at, plainBytes(small))
		x.seen = append(x.seen, b)
		lays(t, x.d, b)
	}
}

// some are bytes that were seen.
func (x *trial) some() []byte { return x.seen[x.r.Intn(len(x.seen))] }

// P15.4, P15.5: by chance: superblocks written, synced, lost, and the sector 0 written over with elder bytes of every sort.
func TestFound(t *testing.T) {
	for i, c := range crypts() {
		x := trial{laid(t, 3), c, rand.New(rand.NewSource(int64(150 + i))), map[string]api.Geo{}, [][]byte{nil, []byte("none")}}
		found := 0
		for range 6000 {
			x.step(t)
			b, _ := x.d.Read(0)
			if y, ok := x.made[string(b)]; ok {
				reads(t, x.d, c, y, c.Sum(b))
				found++
			} else if len(b) == 0 {
				readsNone(t, x.d, c, api.ErrNone)
			} else {
				readsNone(t, x.d, c, api.ErrTamper)
			}
		}
		if found < 1000 || found > 5000 {
			t.Errorf("found %d times", found)
		}
	}
}

// R3: what Put tells is new memory, in which no other answer lies.
func TestPutApart(t *testing.T) {
	for _, x := range ordinary() {
		want := plainBytes(x)
		a, e := super.Put(x)
		b, _ := super.Put(x)
		if e != api.OK {
			t.Errorf("%d", e)
		}
		for i := range a {
			a[i] ^= 255
		}
		_ = append(a, make([]byte, 100)...)
		if c, _ := super.Put(x); !bytes.Equal(b, want) || !bytes.Equal(c, want) {
			t.Errorf("%x, %x, not %x", b, c, want)
		}
	}
}

// R3: bytes that Get is handed stay as they were, what lies behind them too; what it tells is no part of them.
func TestGetApart(t *testing.T) {
	for _, x := range ordinary() {
		room := append(plainBytes(x), bytes.Repeat([]byte{7}, 100)...)
		was := bytes.Clone(room)
		got, e := super.Get(room[:size])
		super.Get(room)
		super.Get(room[:size-1])
		if e != api.OK || !bytes.Equal(room, was) {
			t.Errorf("%d: %x, not %x", e, room, was)
		}
		clear(room)
		if got != x {
			t.Errorf("behind a change of what was handed in: %v, not %v", got, x)
		}
	}
}

// R3: what Write and Read tell stays as it is, whatever becomes of the disk, and a change of it makes no difference to another answer.
func TestToldApart(t *testing.T) {
	for _, c := range crypts() {
		d := laid(t, 4)
		s := writes(t, d, c, 5, small)
		b, _ := d.Read(0)
		want := c.Sum(b)
		x, u, _ := super.Read(d, c)
		lays(t, d, bytes.Repeat([]byte{9}, 73))
		writes(t, d, c, 6, g(32, 64, 64))
		if s != want || u != want || x != small {
			t.Errorf("%x, %v, %x, not %x", s, x, u, want)
		}
		clear(s[:])
		clear(u[:])
		x.Segs = 1
		lays(t, d, b)
		reads(t, d, c, small, want)
	}
}

// R4: what was asked ahead makes no difference, what is refused among it, and what was done with another disk.
func TestAskedAgain(t *testing.T) {
	for _, c := range crypts() {
		d, other := laid(t, 4), laid(t, 4)
		s := writes(t, d, c, 5, small)
		for range 3 {
			mayNot(t, g(17, 32, 5))
			getsNone(t, make([]byte, 23), api.ErrForm)
			may(t, g(32, 64, 64))
			getsNone(t, make([]byte, 25), api.ErrLong)
			writesNone(t, d, c, -1, small, api.ErrRange)
			writesNone(t, d, c, 1, api.Geo{}, api.ErrGeo)
			readsNone(t, other, c, api.ErrNone)
			reads(t, d, c, small, s)
		}
		writes(t, other, c, 7, g(32, 64, 64))
		reads(t, d, c, small, s)
	}
}
