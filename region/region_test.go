package region_test

import (
	"bytes"
	"encoding/binary"
	"encoding/hex"
	"math"
	"math/big"
	"math/rand"
	"slices"
	"strings"
	"testing"

	"rill/api"
	"rill/disk"
	"rill/names"
	"rill/region"
	"rill/seal"
)

// size is how many bytes a record has.
const size = 192

// far are numbers that are out of every place; some of them are in one when they are cut.
var far = []int{
	-2, -3, -8, -32, -64, -4096, -255, -1 << 16, -1<<16 + 3, -1 << 32, -1<<32 + 3, -1 << 40, -1<<40 + 1, -1<<56 + 3, math.MinInt, math.MinInt + 1, math.MinInt + 3, math.MinInt + 8,
	1<<40 + 1, 1<<40 + 2, 1<<40 + 3, 1 << 41, 1<<48 + 5, 1<<56 + 3, 1 << 62, math.MaxInt - 1, math.MaxInt,
}

// field is a number of a record, with some that it may be and some that it may not.
type field struct {
	name  string
	of    func(r *api.Record) *int
	may   []int
	mayNo []int
}

// fields are all numbers of a record, in their order; a Root's At of 0 is asked elsewhere.
func fields() []field {
	numbers, noNumbers := []int{1, 2, 3, 255, 256, 1<<32 + 1, 1<<40 - 1, 1 << 40}, append([]int{-1, 0}, far...)
	ats, noAts := []int{3, 4, 255, 256, 4094, 4095}, append([]int{-1, 1, 2, 4096, 4097, 8191, 1<<16 + 3, 1<<32 + 3, 1 << 40}, far...)
	segs, noSegs := []int{0, 1, 2, 30, 31}, append([]int{-1, 32, 33, 63, 64, 256, 1 << 32, 1 << 40}, far...)
	slots, noSlots := []int{0, 1, 2, 31, 32, 62, 63}, append([]int{-1, 64, 65, 255, 256, 1 << 32, 1 << 40}, far...)
	return []field{
		{"Gen", func(r *api.Record) *int { return &r.Gen }, numbers, noNumbers},
		{"Stamp", func(r *api.Record) *int { return &r.Stamp }, numbers, noNumbers},
		{"Epoch", func(r *api.Record) *int { return &r.Epoch }, numbers, noNumbers},
		{"Root.At", func(r *api.Record) *int { return &r.Root.At }, ats, noAts},
		{"Base.Seg", func(r *api.Record) *int { return &r.Base.Seg }, segs, noSegs},
		{"Base.Slot", func(r *api.Record) *int { return &r.Base.Slot }, slots, noSlots},
		{"Tail.Seg", func(r *api.Record) *int { return &r.Tail.Seg }, segs, noSegs},
		{"Tail.Slot", func(r *api.Record) *int { return &r.Tail.Slot }, slots, noSlots},
	}
}

// full is a digest in which no byte is 0, and no two are one.
func full(first byte) api.Sum {
	var s api.Sum
	for i := range s {
		s[i] = first + byte(i)
	}
	return s
}

// rec is a record with no Root, and both places {0, 0}.
func rec(gen, stamp int) api.Record { return api.Record{Gen: gen, Stamp: stamp, Epoch: 2} }

// whole is a record in which nothing is zero, and no two things are one.
func whole(gen int) api.Record {
	return api.Record{
		Gen: gen, Stamp: 0x0102030405, Epoch: 0x060708090a, Super: full(1), Root: api.Ref{At: 0x0b0c, Sum: full(34)},
		Base: api.Place{Seg: 13, Slot: 14}, Tail: api.Place{Seg: 15, Slot: 16}, BaseSum: full(70), TailSum: full(110),
	}
}

// ordinary are records that may be: with a Root and without, both places alike and unlike, Gen even and odd.
func ordinary() []api.Record {
	var l []api.Record
	for _, gen := range []int{1, 2, 7, 8, 1<<40 - 1, 1 << 40} {
		bare, same, far, filled := whole(gen), whole(gen), whole(gen), whole(gen)
		bare.Root = api.Ref{}
		same.Base, same.BaseSum = same.Tail, same.TailSum
		far.Stamp, far.Epoch, far.Root.At, far.Base, far.Tail = 1<<40, 1<<40, 4095, api.Place{Seg: 31, Slot: 63}, api.Place{Seg: 31, Slot: 63}
		filled.Super, filled.Root.Sum = api.Sum(bytes.Repeat([]byte{255}, 32)), api.Sum{}
		l = append(l, api.Record{Gen: gen, Stamp: 1, Epoch: 1}, rec(gen, 2), whole(gen), bare, same, far, filled)
	}
	return l
}

// plainCheck is what the chapter's words say of a record.
func plainCheck(r api.Record) api.Errno {
	wrong := 0
	for _, n := range []int{r.Gen, r.Stamp, r.Epoch} {
		if n <= 0 || n > 1<<40 {
			wrong++
		}
	}
	for _, p := range []api.Place{r.Base, r.Tail} {
		if p.Seg < 0 || p.Slot < 0 || p.Seg > 31 || p.Slot > 63 {
			wrong++
		}
	}
	silent := r.Root.At == 0 && strings.Trim(string(r.Root.Sum[:]), "\x00") == ""
	if !silent && (r.Root.At <= 2 || r.Root.At > 4095) {
		wrong++
	}
	if wrong > 0 {
		return api.ErrRange
	}
	return api.OK
}

// plainBytes are a record's bytes, whether it may be or not; Go's own package has the numbers.
func plainBytes(r api.Record) []byte {
	var b []byte
	for _, n := range []int{r.Gen, r.Stamp, r.Epoch} {
		b = binary.BigEndian.AppendUint64(b, uint64(n))
	}
	b = append(b, r.Super[:]...)
	b = binary.BigEndian.AppendUint64(b, uint64(r.Root.At))
	b = append(b, r.Root.Sum[:]...)
	for _, n := range []int{r.Base.Seg, r.Base.Slot, r.Tail.Seg, r.Tail.Slot} {
		b = binary.BigEndian.AppendUint64(b, uint64(n))
	}
	return append(append(b, r.BaseSum[:]...), r.TailSum[:]...)
}

// plainGet is what the chapter's words say of Get.
func plainGet(b []byte) (api.Record, api.Errno) {
	switch {
	case len(b) < size:
		return api.Record{}, api.ErrForm
	case len(b) > size:
		return api.Record{}, api.ErrLong
	}
	number := func(at int) int { return int(binary.BigEndian.Uint64(b[at:])) }
	sum := func(at int) api.Sum { return api.Sum(b[at : at+32]) }
	r := api.Record{
		Gen: number(0), Stamp: number(8), Epoch: number(16), Super: sum(24), Root: api.Ref{At: number(56), Sum: sum(64)},
		Base: api.Place{Seg: number(96), Slot: number(104)}, Tail: api.Place{Seg: number(112), Slot: number(120)}, BaseSum: sum(128), TailSum: sum(160),
	}
	if e := plainCheck(r); e != api.OK {
		return api.Record{}, e
	}
	return r, api.OK
}

// may tells of a record that is refused, or is not put and got as the chapter words it; the answer are its bytes.
func may(t *testing.T, r api.Record) []byte {
	t.Helper()
	want := plainBytes(r)
	b, e := region.Put(r)
	if e != api.OK || !bytes.Equal(b, want) || len(b) != size {
		t.Fatalf("Put %v: %x, %d, not %x", r, b, e, want)
	}
	gets(t, b, r)
	return b
}

// gets tells of bytes that are not this record, or are not made again of it.
func gets(t *testing.T, b []byte, r api.Record) {
	t.Helper()
	x, e := region.Get(b)
	if x != r || e != api.OK {
		t.Errorf("Get %x: %v, %d, not %v", b, x, e, r)
	}
	if again, e := region.Put(x); e != api.OK || !bytes.Equal(again, b) {
		t.Errorf("Put of Get: %x, %d, not %x", again, e, b)
	}
}

// mayNot tells of a record that is not refused with ErrRange alone, put, got or written.
func mayNot(t *testing.T, r api.Record) {
	t.Helper()
	if b, e := region.Put(r); e != api.ErrRange || b != nil {
		t.Errorf("Put %v: %x, %d", r, b, e)
	}
	getsNone(t, plainBytes(r), api.ErrRange)
}

// is tells of a record that is not taken, or not refused, as this error says.
func is(t *testing.T, r api.Record, want api.Errno) {
	t.Helper()
	if want == api.OK {
		may(t, r)
	} else {
		mayNot(t, r)
	}
}

// getsNone tells of a call of Get that does not answer an error alone.
func getsNone(t *testing.T, b []byte, want api.Errno) {
	t.Helper()
	if r, e := region.Get(b); e != want || r != (api.Record{}) {
		t.Errorf("Get %x: %v, %d, not %d", b, r, e, want)
	}
}

// stands tells of bytes, whatever they are, of which Get does not tell what the chapter's words say.
func stands(t *testing.T, b []byte) {
	t.Helper()
	if r, e := plainGet(b); e == api.OK {
		gets(t, b, r)
	} else {
		getsNone(t, b, e)
	}
}

// The chapter's examples.
func TestExamples(t *testing.T) {
	for _, c := range crypts() {
		d := laid(t, 4)
		if b := may(t, rec(1, 2)); len(b) != 192 {
			t.Errorf("%d bytes", len(b))
		}
		writes(t, d, c, rec(1, 2), 1)
		if b, _ := d.Read(2); len(b) == 0 {
			t.Error("nothing in the sector 2")
		}
		tells(t, d, c, rec(1, 2))
		writes(t, d, c, rec(2, 3), 1)
		tells(t, d, c, rec(2, 3), rec(1, 2))
	}
	l := []api.Record{rec(1, 2), rec(2, 3)}
	chooses(t, l, 2, rec(2, 3))
	chooses(t, l, 1, rec(1, 2))
	choosesNone(t, l, 0)
	mayNot(t, rec(0, 2))
	mayNot(t, api.Record{Gen: 1, Stamp: 2, Epoch: 2, Root: api.Ref{At: 1}})
	mayNot(t, api.Record{Gen: 1, Stamp: 2, Epoch: 2, Tail: api.Place{Slot: 64}})
}

// P14.1: a record written out.
func TestWritten(t *testing.T) {
	want := strings.Join([]string{
		"0000000000000007", "0000000102030405", "000000060708090a",
		"0102030405060708090a0b0c0d0e0f101112131415161718191a1b1c1d1e1f20",
		"0000000000000b0c", "22232425262728292a2b2c2d2e2f303132333435363738393a3b3c3d3e3f4041",
		"000000000000000d", "000000000000000e", "000000000000000f", "0000000000000010",
		"464748494a4b4c4d4e4f505152535455565758595a5b5c5d5e5f606162636465",
		"6e6f707172737475767778797a7b7c7d7e7f808182838485868788898a8b8c8d",
	}, "")
	if b := hex.EncodeToString(may(t, whole(7))); b != want {
		t.Errorf("%s, not %s", b, want)
	}
	one := "0000000000000001"
	if b := hex.EncodeToString(may(t, api.Record{Gen: 1, Stamp: 1, Epoch: 1})); b != one+one+one+strings.Repeat("00", 168) {
		t.Errorf("the least: %s", b)
	}
}

// P14.1, P14.5: ordinary records, there and back.
func TestOrdinary(t *testing.T) {
	for _, r := range ordinary() {
		if plainCheck(r) != api.OK {
			t.Fatalf("%v", r)
		}
		may(t, r)
	}
}

// P14.1, P14.5: each number of a record at its ends, one beyond them, and far out.
func TestEdges(t *testing.T) {
	for _, f := range fields() {
		for _, r := range ordinary() {
			for _, n := range f.may {
				x := r
				*f.of(&x) = n
				may(t, x)
			}
			for _, n := range f.mayNo {
				x := r
				*f.of(&x) = n
				if plainCheck(x) == api.OK {
					t.Fatalf("%s of %d", f.name, n)
				}
				mayNot(t, x)
			}
		}
	}
}

// P14.1: each At of a Root, each Seg and each Slot from below the least to behind the greatest.
func TestEach(t *testing.T) {
	for i, most := range []int{4095, 31, 63, 31, 63} {
		f := fields()[3+i]
		for n := -300; n < most+300; n++ {
			r, want := rec(3, 4), api.ErrRange
			*f.of(&r) = n
			if n >= 0 && n <= most && (i > 0 || n == 0 || n >= 3) {
				want = api.OK
			}
			is(t, r, want)
		}
	}
}

// P14.1: a Root that says nothing has no digest, neither a byte of it, nor a bit; one with a place may have any.
func TestSilent(t *testing.T) {
	for _, r := range ordinary() {
		r.Root = api.Ref{}
		may(t, r)
		for k := range 32 {
			for _, v := range []byte{1, 2, 16, 128, 255} {
				var sum api.Sum
				sum[k] = v
				r.Root = api.Ref{Sum: sum}
				mayNot(t, r)
				r.Root = api.Ref{At: 3, Sum: sum}
				may(t, r)
				r.Root = api.Ref{At: 4095, Sum: sum}
				may(t, r)
				r.Root = api.Ref{At: 2, Sum: sum}
				mayNot(t, r)
			}
		}
		r.Root = api.Ref{Sum: full(1)}
		mayNot(t, r)
	}
}

// P14.1: several things that are wrong at once, two and all of them.
func TestWrong(t *testing.T) {
	all := whole(1)
	for _, f := range fields() {
		for _, g := range fields() {
			for _, n := range f.mayNo {
				for _, k := range g.mayNo {
					r := whole(5)
					*f.of(&r) = n
					*g.of(&r) = k
					mayNot(t, r)
				}
			}
		}
		*f.of(&all) = -1
		mayNot(t, all)
	}
	mayNot(t, api.Record{})
}

// P14.1: each beginning of a record's bytes, with the others lying behind or not: there are fewer; and each end of them.
func TestFewer(t *testing.T) {
	for _, r := range ordinary() {
		b := may(t, r)
		for n := range size {
			getsNone(t, b[:n], api.ErrForm)
			getsNone(t, bytes.Clone(b[:n]), api.ErrForm)
			if n > 0 {
				getsNone(t, b[n:], api.ErrForm)
			}
		}
	}
	for _, none := range [][]byte{nil, {}, make([]byte, 0, 400)} {
		getsNone(t, none, api.ErrForm)
	}
}

// P14.1: bytes behind a record's: one, a number's, a digest's, another record's.
func TestMore(t *testing.T) {
	for _, r := range ordinary() {
		b := may(t, r)
		for _, more := range [][]byte{{0}, {1}, {255}, make([]byte, 7), make([]byte, 8), make([]byte, 31), make([]byte, 32), plainBytes(whole(8)), b, make([]byte, 5000)} {
			getsNone(t, slices.Concat(b, more), api.ErrLong)
		}
	}
	for n := size + 1; n < 1100; n++ {
		getsNone(t, make([]byte, n), api.ErrLong)
	}
	getsNone(t, make([]byte, 1<<20), api.ErrLong)
}

// P14.1: the bytes' number is asked ahead of what they say.
func TestFirst(t *testing.T) {
	wrong := []api.Record{{}}
	for _, f := range fields() {
		for _, n := range f.mayNo {
			r := whole(2)
			*f.of(&r) = n
			wrong = append(wrong, r)
		}
	}
	for _, r := range wrong {
		b := plainBytes(r)
		getsNone(t, b, api.ErrRange)
		for n := range size {
			getsNone(t, b[:n], api.ErrForm)
		}
		for _, more := range [][]byte{{0}, {255}, make([]byte, 32), plainBytes(whole(1)), b} {
			getsNone(t, slices.Concat(b, more), api.ErrLong)
		}
	}
	getsNone(t, bytes.Repeat([]byte{255}, 191), api.ErrForm)
	getsNone(t, bytes.Repeat([]byte{255}, 192), api.ErrRange)
	getsNone(t, bytes.Repeat([]byte{255}, 193), api.ErrLong)
}

// P14.1, P14.5: each byte of a record's bytes turned, to each other one: another record, or none.
func TestTurned(t *testing.T) {
	for _, r := range ordinary() {
		b := may(t, r)
		for i := range b {
			for v := 1; v < 256; v++ {
				b[i] ^= byte(v)
				if x, e := region.Get(b); e == api.OK && x == r {
					t.Errorf("byte %d by %d: the same record", i, v)
				}
				stands(t, b)
				b[i] ^= byte(v)
			}
		}
		gets(t, b, r)
	}
}

// chance is a record by chance, which most often may be.
func chance(r *rand.Rand) api.Record {
	x := api.Record{Gen: 1 + r.Intn(1<<40), Stamp: 1 + r.Intn(1<<40), Epoch: 1 + r.Intn(1<<40), Base: api.Place{Seg: r.Intn(32), Slot: r.Intn(64)}, Tail: api.Place{Seg: r.Intn(32), Slot: r.Intn(64)}}
	r.Read(x.Super[:])
	r.Read(x.BaseSum[:])
	r.Read(x.TailSum[:])
	if r.Intn(3) > 0 {
		x.Root.At = 3 + r.Intn(4093)
		r.Read(x.Root.Sum[:])
	}
	if r.Intn(2) > 0 {
		return x
	}
	all := fields()
	f := all[r.Intn(len(all))]
	switch r.Intn(5) {
	case 0:
		*f.of(&x) = f.mayNo[r.Intn(len(f.mayNo))]
	case 1:
		*f.of(&x) = int(r.Uint64())
	case 2:
		*f.of(&x) = r.Intn(200) - 50
	case 3:
		x.Root.At = 0
		x.Root.Sum[r.Intn(32)] = byte(r.Intn(256))
	case 4:
		*f.of(&x) = f.may[r.Intn(len(f.may))]
	}
	return x
}

// P14.1, P14.5: records by chance against the chapter's words made another way; unlike ones have unlike bytes.
func TestChance(t *testing.T) {
	r := rand.New(rand.NewSource(14))
	seen := map[string]api.Record{}
	for range 20000 {
		x := chance(r)
		want := plainCheck(x)
		is(t, x, want)
		if want != api.OK {
			continue
		}
		b, _ := region.Put(x)
		if was, ok := seen[string(b)]; ok && was != x {
			t.Errorf("%v and %v: the same bytes", was, x)
		}
		seen[string(b)] = x
	}
	if len(seen) < 5000 || len(seen) > 19000 {
		t.Errorf("%d taken", len(seen))
	}
}

// P14.1, P14.5: bytes by chance, with the higher ones of each number zero so that many are records: Put of Get has just these.
func TestBytes(t *testing.T) {
	r := rand.New(rand.NewSource(41))
	taken := 0
	for range 20000 {
		b := make([]byte, size)
		r.Read(b)
		for i, at := range []int{0, 8, 16, 56, 96, 104, 112, 120} {
			clear(b[at : at+[]int{3, 3, 3, 6, 7, 7, 7, 7}[i]])
		}
		b[62] &= 15
		for _, at := range []int{103, 111, 119, 127} {
			b[at] %= 33
		}
		if r.Intn(4) == 0 {
			clear(b[56:96])
		}
		if _, e := plainGet(b); e == api.OK {
			taken++
		}
		stands(t, b)
	}
	if taken < 5000 || taken > 19000 {
		t.Errorf("%d taken", taken)
	}
}

// crypts are new ones of both sorts.
func crypts() []api.Crypt {
	return []api.Crypt{seal.New([]byte("key")), names.New()}
}

// laid is a new disk of so many sectors.
func laid(t *testing.T, n int) *disk.Disk {
	t.Helper()
	d, e := disk.New(n)
	if e != api.OK {
		t.Fatal("New", n, e)
	}
	return d
}

// sealed are the bytes of a sector, as chapter 11 words them.
func sealed(c api.Crypt, kind, epoch, number, at int, plain []byte) []byte {
	b := binary.BigEndian.AppendUint64([]byte{byte(kind)}, uint64(epoch))
	b = binary.BigEndian.AppendUint64(b, uint64(number))
	return append(b, c.Seal(epoch, number, binary.BigEndian.AppendUint64([]byte{byte(kind)}, uint64(at)), plain)...)
}

// home is the region of a generation.
func home(gen int) int { return 1 + gen%2 }

// own are the bytes of a record's sector.
func own(c api.Crypt, r api.Record, number int) []byte {
	return sealed(c, api.KRegion, r.Epoch, number, home(r.Gen), plainBytes(r))
}

// image is what a disk tells of itself, without whether it has power.
type image struct {
	sectors, dirty string
	writes         int
}

// shown is a disk's image.
func shown(d *disk.Disk) image {
	var x image
	for i := range d.Len() {
		b, _ := d.Read(i)
		x.sectors += hex.EncodeToString(b) + ";"
	}
	for _, i := range d.Dirty() {
		x.dirty += string(rune(i)) + ";"
	}
	x.writes = d.Writes()
	return x
}

// writes tells of a record that is not written into its region alone, as the chapter words it.
func writes(t *testing.T, d *disk.Disk, c api.Crypt, r api.Record, number int) {
	t.Helper()
	was, n := make([][]byte, d.Len()), d.Writes()
	for i := range was {
		was[i], _ = d.Read(i)
	}
	if e := region.Write(d, c, r, number); e != api.OK {
		t.Fatalf("Write %v, %d: %d", r, number, e)
	}
	was[home(r.Gen)] = own(c, r, number)
	for i := range was {
		if b, _ := d.Read(i); !bytes.Equal(b, was[i]) {
			t.Errorf("Write %v, %d: the sector %d is %x, not %x", r, number, i, b, was[i])
		}
	}
	if d.Writes() != n+1 || !slices.Contains(d.Dirty(), home(r.Gen)) {
		t.Errorf("Write %v, %d: %d writes, dirty %v", r, number, d.Writes()-n, d.Dirty())
	}
}

// writesNone tells of a call of Write that does not answer this error, or changes the disk, but its power.
func writesNone(t *testing.T, d *disk.Disk, c api.Crypt, r api.Record, number int, want api.Errno) {
	t.Helper()
	was := shown(d)
	if e := region.Write(d, c, r, number); e != want {
		t.Errorf("Write %v, %d: %d, not %d", r, number, e, want)
	}
	if shown(d) != was {
		t.Errorf("Write %v, %d: the disk was changed", r, number)
	}
}

// tells tells of an answer of All that is not these records, or that changes the disk.
func tells(t *testing.T, d *disk.Disk, c api.Crypt, want ...api.Record) {
	t.Helper()
	was, down := shown(d), d.Down()
	if l := region.All(d, c); !slices.Equal(l, want) {
		t.Errorf("All: %v, not %v", l, want)
	}
	if shown(d) != was || d.Down() != down {
		t.Error("All: the disk was changed")
	}
}

// lays lays bytes into a sector, past the cache.
func lays(t *testing.T, d *disk.Disk, at int, b []byte) {
	t.Helper()
	if e := d.Tamper(at, b); e != api.OK {
		t.Fatal("Tamper", at, e)
	}
}

// P14.2, P14.3, P14.5: ordinary records, each written into its region, and told.
func TestWrite(t *testing.T) {
	for _, c := range crypts() {
		for _, r := range ordinary() {
			for _, number := range []int{0, 1, 2, 255, 256, 1<<40 - 1, 1 << 40} {
				for _, n := range []int{3, 4, 100} {
					d := laid(t, n)
					writes(t, d, c, r, number)
					tells(t, d, c, r)
				}
			}
		}
	}
}

// P14.2: the bytes of a Names' sectors, written out: the kind, the epoch, the number, the record, 24 noughts and how many were sealed.
func TestWriteWritten(t *testing.T) {
	d, c := laid(t, 3), names.New()
	for i, gen := range []int{1, 2, 3} {
		r := rec(gen, 9)
		if e := region.Write(d, c, r, 0x0506); e != api.OK {
			t.Fatal("Write", e)
		}
		front := "02" + "0000000000000002" + "0000000000000506"
		record := "000000000000000" + string(rune('0'+gen)) + "0000000000000009" + "0000000000000002" + strings.Repeat("00", 168)
		want := front + record + strings.Repeat("00", 31) + "0" + string(rune('1'+i))
		b, _ := d.Read([]int{2, 1, 2}[i])
		if hex.EncodeToString(b) != want {
			t.Errorf("%x, not %s", b, want)
		}
	}
}

// P14.2: a record that may not be: the error of Put, ahead of the number's and the disk's; nothing is changed, nor does the power fail.
func TestWriteNoRecord(t *testing.T) {
	for _, c := range crypts() {
		d := laid(t, 4)
		writes(t, d, c, whole(3), 1)
		writes(t, d, c, whole(4), 2)
		d.Sync()
		small, down := laid(t, 1), laid(t, 4)
		down.Arm(0)
		down.Spend()
		for _, f := range fields() {
			for _, n := range f.mayNo {
				r := whole(5)
				*f.of(&r) = n
				for _, number := range []int{5, -1, 1<<40 + 1} {
					d.Arm(0)
					for _, x := range []*disk.Disk{d, small, down} {
						writesNone(t, x, c, r, number, api.ErrRange)
					}
					if d.Down() {
						t.Fatal("the power has failed")
					}
				}
			}
		}
		tells(t, d, c, whole(4), whole(3))
	}
}

// P14.2: a number that may not be: the error of sector.Put, ahead of the disk's; nothing is changed, nor does the power fail.
func TestWriteNoNumber(t *testing.T) {
	for _, c := range crypts() {
		d, small, down := laid(t, 4), laid(t, 1), laid(t, 4)
		down.Arm(0)
		down.Spend()
		writes(t, d, c, whole(3), 0)
		for _, number := range append([]int{-1}, far...) {
			for _, r := range ordinary() {
				d.Arm(0)
				for _, x := range []*disk.Disk{d, small, down} {
					writesNone(t, x, c, r, number, api.ErrRange)
				}
				if d.Down() {
					t.Fatal("the power has failed")
				}
			}
		}
		tells(t, d, c, whole(3))
	}
}

// P14.2, R2: of what Put or sector.Put refuses a Names remembers nothing.
func TestNothingRemembered(t *testing.T) {
	d, c := laid(t, 4), names.New()
	writesNone(t, d, c, rec(0, 1), 1, api.ErrRange)
	writesNone(t, d, c, rec(1, 1), -1, api.ErrRange)
	writesNone(t, d, c, rec(1, 1), 1<<40+1, api.ErrRange)
	tells(t, d, c)
	if b := c.Seal(1, 1, nil, nil); b[31] != 1 {
		t.Errorf("the first one sealed is %x", b)
	}
}

// P14.2: a disk whose power fails, by this call or ahead of it: ErrDown, and the elder records stay.
func TestWriteDown(t *testing.T) {
	for _, c := range crypts() {
		for _, gen := range []int{5, 6} {
			d := laid(t, 4)
			writes(t, d, c, whole(3), 1)
			writes(t, d, c, whole(4), 2)
			d.Sync()
			d.Arm(0)
			writesNone(t, d, c, whole(gen), 3, api.ErrDown)
			if !d.Down() {
				t.Error("the power has not failed")
			}
			writesNone(t, d, c, whole(gen), 3, api.ErrDown)
			tells(t, d, c, whole(4), whole(3))
			d.Crash([]int{1, 1})
			tells(t, d, c, whole(4), whole(3))
			d.Arm(1)
			writes(t, d, c, whole(gen), 3)
			writesNone(t, d, c, whole(gen), 3, api.ErrDown)
			writesNone(t, d, c, whole(gen+1), 3, api.ErrDown)
		}
	}
}

// P14.2, P14.3: a disk that has too few sectors: ErrRange; without power ErrDown, and armed it does not fail; what it does not tell is no record.
func TestSmallDisk(t *testing.T) {
	for _, c := range crypts() {
		one, two := laid(t, 1), laid(t, 2)
		tells(t, one, c)
		tells(t, two, c)
		for _, r := range ordinary() {
			writesNone(t, one, c, r, 1, api.ErrRange)
			one.Arm(0)
			writesNone(t, one, c, r, 1, api.ErrRange)
			if one.Down() {
				t.Error("the power has failed")
			}
			one.Spend()
			writesNone(t, one, c, r, 1, api.ErrDown)
			one.Crash(nil)
			if r.Gen%2 == 1 {
				writesNone(t, two, c, r, 1, api.ErrRange)
			} else {
				writes(t, two, c, r, 1)
				tells(t, two, c, r)
			}
		}
		lays(t, one, 0, own(c, whole(2), 1))
		tells(t, one, c)
	}
}

// P14.2: what was written lasts from the next Sync on, and not ahead of it.
func TestLasts(t *testing.T) {
	for _, c := range crypts() {
		for _, gens := range [][2]int{{1, 2}, {2, 1}} {
			a, b := whole(gens[0]), whole(gens[1])
			d := laid(t, 4)
			writes(t, d, c, a, 1)
			d.Crash(nil)
			tells(t, d, c)
			writes(t, d, c, a, 1)
			d.Crash([]int{1})
			tells(t, d, c, a)
			writes(t, d, c, b, 2)
			d.Crash([]int{0})
			tells(t, d, c, a)
			writes(t, d, c, b, 2)
			d.Sync()
			d.Crash(nil)
			tells(t, d, c, whole(2), whole(1))
			next := whole(gens[0] + 2)
			writes(t, d, c, next, 3)
			d.Crash(nil)
			tells(t, d, c, whole(2), whole(1))
			writes(t, d, c, next, 3)
			d.Sync()
			d.Crash(nil)
			if gens[0] == 2 {
				tells(t, d, c, next, b)
			} else {
				tells(t, d, c, b, next)
			}
		}
	}
}

// P14.3: an empty disk, and one without power; records of both regions, of one, in the order of the sectors, whatever was written first.
func TestAll(t *testing.T) {
	for _, c := range crypts() {
		d := laid(t, 4)
		tells(t, d, c)
		writes(t, d, c, whole(9), 1)
		tells(t, d, c, whole(9))
		writes(t, d, c, rec(2, 1), 2)
		tells(t, d, c, rec(2, 1), whole(9))
		d.Sync()
		d.Arm(0)
		d.Spend()
		tells(t, d, c, rec(2, 1), whole(9))
		d.Crash(nil)
		writes(t, d, c, rec(100, 5), 0)
		tells(t, d, c, rec(100, 5), whole(9))
		writes(t, d, c, rec(1, 1<<40), 0)
		tells(t, d, c, rec(100, 5), rec(1, 1<<40))
		writes(t, d, c, whole(2), 7)
		writes(t, d, c, whole(1), 7)
		tells(t, d, c, whole(2), whole(1))
		lays(t, d, 1, nil)
		tells(t, d, c, whole(1))
		lays(t, d, 2, nil)
		tells(t, d, c)
	}
}

// P14.3: both regions hold one stamp, one epoch, one number: each tells its own.
func TestAllAlike(t *testing.T) {
	for _, c := range crypts() {
		for _, r := range ordinary() {
			other := r
			other.Gen = 1<<40 + 1 - r.Gen
			if home(r.Gen) == home(other.Gen) {
				t.Fatalf("%d and %d", r.Gen, other.Gen)
			}
			d := laid(t, 3)
			writes(t, d, c, r, 4)
			writes(t, d, c, other, 4)
			if home(r.Gen) == 1 {
				tells(t, d, c, r, other)
			} else {
				tells(t, d, c, other, r)
			}
		}
	}
}

// spoils lays bytes that are no record into each region by turns: the other one alone is told; then the record itself, and it is told again.
func spoils(t *testing.T, c api.Crypt, bad func(at int, r api.Record) []byte) {
	t.Helper()
	d := laid(t, 4)
	both := []api.Record{1: whole(6), 2: whole(7)}
	writes(t, d, c, both[1], 8)
	writes(t, d, c, both[2], 9)
	for at := 1; at <= 2; at++ {
		was, _ := d.Read(at)
		lays(t, d, at, bad(at, both[at]))
		tells(t, d, c, both[3-at])
		lays(t, d, at, was)
		tells(t, d, c, both[1], both[2])
	}
}

// P14.3, P14.6: a region with each bit turned, cut off at each byte, at either end, and with bytes behind.
func TestSpoilt(t *testing.T) {
	for _, c := range crypts() {
		n := len(own(c, whole(6), 8))
		for bit := range 8 * n {
			spoils(t, c, func(at int, r api.Record) []byte {
				b := own(c, r, 7+at)
				b[bit/8] ^= 1 << (bit % 8)
				return b
			})
		}
		for cut := range n {
			spoils(t, c, func(at int, r api.Record) []byte { return own(c, r, 7+at)[:cut] })
			spoils(t, c, func(at int, r api.Record) []byte { return own(c, r, 7+at)[n-cut:] })
		}
		for _, more := range []int{1, 2, 8, 31, 32, 33, 192, 700} {
			spoils(t, c, func(at int, r api.Record) []byte { return append(own(c, r, 7+at), make([]byte, more)...) })
		}
	}
}

// P14.3: sectors of another kind, of another place, of the other region, of another Epoch than the record's, all of them sealed by that crypt.
func TestElsewhere(t *testing.T) {
	for _, c := range crypts() {
		for kind := 1; kind <= 5; kind++ {
			if kind == api.KRegion {
				continue
			}
			spoils(t, c, func(at int, r api.Record) []byte { return sealed(c, kind, r.Epoch, 8, at, plainBytes(r)) })
			spoils(t, c, func(at int, r api.Record) []byte {
				b := sealed(c, kind, r.Epoch, 8, at, plainBytes(r))
				b[0] = api.KRegion
				return b
			})
		}
		for _, other := range []int{0, 3, 4, 255, 256, 257, 258, 1000, 4095} {
			spoils(t, c, func(at int, r api.Record) []byte { return sealed(c, api.KRegion, r.Epoch, 8, other, plainBytes(r)) })
		}
		spoils(t, c, func(at int, r api.Record) []byte { return sealed(c, api.KRegion, r.Epoch, 8, 3-at, plainBytes(r)) })
		for _, turn := range []int{-1, 1, 3, 1<<40 - 9} {
			spoils(t, c, func(at int, r api.Record) []byte {
				r.Gen += turn
				if home(r.Gen) == at {
					t.Fatal("its own region", r.Gen)
				}
				return sealed(c, api.KRegion, r.Epoch, 8, at, plainBytes(r))
			})
			spoils(t, c, func(at int, r api.Record) []byte {
				r.Gen += turn
				return own(c, r, 8)
			})
		}
		for _, epoch := range []int{0, 1, 0x060708090a - 1, 0x060708090a + 1, 1<<40 - 1, 1 << 40} {
			spoils(t, c, func(at int, r api.Record) []byte { return sealed(c, api.KRegion, epoch, 8, at, plainBytes(r)) })
		}
	}
}

// P14.3: another key, another Names, and a crypt of the other sort.
func TestOtherCrypt(t *testing.T) {
	all := []api.Crypt{seal.New([]byte("key")), seal.New([]byte("kez")), seal.New(nil), names.New(), names.New()}
	for i, c := range all {
		d := laid(t, 4)
		a, b := whole(6), whole(7)
		a.Stamp, b.Stamp = 1000+i, 2000+i // else one Names would have sealed what another has
		writes(t, d, c, a, 1)
		writes(t, d, c, b, 2)
		for _, other := range all {
			if other == c {
				tells(t, d, other, a, b)
			} else {
				tells(t, d, other)
			}
		}
		for k, other := range all {
			if other != c {
				spoils(t, c, func(at int, r api.Record) []byte {
					r.Stamp = 1 + k
					return own(other, r, 30)
				})
			}
		}
	}
}

// P14.3: sectors of the region, of the right epoch, whose bytes are no record.
func TestNoRecord(t *testing.T) {
	for _, c := range crypts() {
		of := func(bad func(r api.Record) []byte) {
			t.Helper()
			spoils(t, c, func(at int, r api.Record) []byte { return sealed(c, api.KRegion, r.Epoch, 8, at, bad(r)) })
		}
		for n := range size {
			of(func(r api.Record) []byte { return plainBytes(r)[:n] })
		}
		for _, more := range []int{1, 8, 32, 40, 192, 783} {
			of(func(r api.Record) []byte { return append(plainBytes(r), make([]byte, more)...) })
		}
		of(func(r api.Record) []byte { return []byte("no record") })
		for _, f := range fields() {
			if f.name == "Epoch" { // it is the sector's too: see below
				continue
			}
			for _, n := range f.mayNo {
				of(func(r api.Record) []byte {
					*f.of(&r) = n
					return plainBytes(r)
				})
			}
		}
		of(func(r api.Record) []byte {
			r.Root = api.Ref{Sum: api.Sum{31: 1}}
			return plainBytes(r)
		})
		spoils(t, c, func(at int, r api.Record) []byte {
			r.Epoch = 0
			return own(c, r, 8)
		})
	}
}

// P14.5: what was written is told until its region is written again, whatever its stamp is, or spoilt; elder bytes are told again when they are laid back.
func TestAgain(t *testing.T) {
	for _, c := range crypts() {
		d := laid(t, 4)
		writes(t, d, c, whole(2), 1)
		writes(t, d, c, whole(3), 2)
		elder, _ := d.Read(1)
		for gen := 4; gen < 30; gen += 2 {
			r := rec(gen, 40-gen)
			writes(t, d, c, r, gen)
			tells(t, d, c, r, whole(3))
			d.Sync()
			tells(t, d, c, r, whole(3))
		}
		lays(t, d, 0, []byte("spoilt"))
		lays(t, d, 3, []byte("spoilt"))
		tells(t, d, c, rec(28, 12), whole(3))
		lays(t, d, 1, elder)
		tells(t, d, c, whole(2), whole(3))
		writes(t, d, c, whole(2), 1)
		writes(t, d, c, whole(2), 5)
		tells(t, d, c, whole(2), whole(3))
		lays(t, d, 1, make([]byte, 1024))
		tells(t, d, c, whole(3))
		writes(t, d, c, rec(6, 6), 1)
		tells(t, d, c, rec(6, 6), whole(3))
	}
}

// P14.5, P14.6: by chance: records written, synced, lost, and sectors written over with elder bytes of every sort, laid into either region.
func TestNoOther(t *testing.T) {
	type found struct {
		at int
		b  string
	}
	for i, c := range crypts() {
		r := rand.New(rand.NewSource(int64(140 + i)))
		d := laid(t, 4)
		made := map[found]api.Record{}
		seen := [][]byte{nil, []byte("none")}
		for range 6000 {
			switch r.Intn(8) {
			case 0, 1, 2:
				x, number := chance(r), r.Intn(4)
				if r.Intn(2) == 0 {
					x = rec(1+r.Intn(4), 1+r.Intn(3))
				}
				if plainCheck(x) != api.OK {
					writesNone(t, d, c, x, number, api.ErrRange)
					break
				}
				writes(t, d, c, x, number)
				b, _ := d.Read(home(x.Gen))
				made[found{home(x.Gen), string(b)}] = x
				seen = append(seen, b)
			case 3:
				d.Sync()
			case 4:
				d.Crash([]int{r.Intn(2), r.Intn(2)})
			case 5:
				lays(t, d, 1+r.Intn(2), seen[r.Intn(len(seen))])
			case 6:
				a, b := seen[r.Intn(len(seen))], seen[r.Intn(len(seen))]
				cut := r.Intn(250)
				lays(t, d, 1+r.Intn(2), slices.Concat(a[:min(cut, len(a))], b[min(cut, len(b)):]))
			case 7:
				x := rec(1+r.Intn(4), 1+r.Intn(3))
				b := sealed(c, 1+r.Intn(5), 2, r.Intn(4), 3+r.Intn(3), plainBytes(x))
				seen = append(seen, b)
				lays(t, d, 1+r.Intn(2), b)
			}
			var want []api.Record
			for at := 1; at <= 2; at++ {
				b, _ := d.Read(at)
				if x, ok := made[found{at, string(b)}]; ok {
					want = append(want, x)
				}
			}
			tells(t, d, c, want...)
		}
	}
}

// chooses tells of an answer of Choose that is not this record.
func chooses(t *testing.T, l []api.Record, level int, want api.Record) {
	t.Helper()
	if r, ok := region.Choose(l, level); !ok || r != want {
		t.Errorf("Choose %v, %d: %v, %v, not %v", l, level, r, ok, want)
	}
}

// choosesNone tells of an answer of Choose that is a record, or has one beside false.
func choosesNone(t *testing.T, l []api.Record, level int) {
	t.Helper()
	if r, ok := region.Choose(l, level); ok || r != (api.Record{}) {
		t.Errorf("Choose %v, %d: %v, %v", l, level, r, ok)
	}
}

// plainChoose is what the chapter's words say of Choose, in numbers that do not wrap round.
func plainChoose(l []api.Record, level int) (api.Record, bool) {
	most := big.NewInt(int64(level))
	most.Add(most, big.NewInt(1))
	var left []api.Record
	for _, r := range l {
		if big.NewInt(int64(r.Stamp)).Cmp(most) <= 0 {
			left = append(left, r)
		}
	}
	if len(left) == 0 {
		return api.Record{}, false
	}
	slices.SortStableFunc(left, func(a, b api.Record) int { return big.NewInt(int64(b.Stamp)).Cmp(big.NewInt(int64(a.Stamp))) })
	return left[0], true
}

// P14.4: of no records; of one with a Stamp below, at, and above level + 1.
func TestChooseOne(t *testing.T) {
	for _, level := range []int{0, 1, 2, 100, 1<<40 - 2, 1<<40 - 1, 1 << 40, math.MaxInt - 1, math.MaxInt, -1, -5, math.MinInt, math.MinInt + 1} {
		choosesNone(t, nil, level)
		choosesNone(t, []api.Record{}, level)
	}
	for _, stamp := range []int{1, 2, 3, 100, 1<<40 - 1, 1 << 40} {
		for _, r := range []api.Record{rec(1, stamp), whole(8)} {
			r.Stamp = stamp
			for _, level := range []int{stamp - 1, stamp, stamp + 1, 1 << 41, math.MaxInt - 1, math.MaxInt} {
				chooses(t, []api.Record{r}, level, r)
			}
			for _, level := range []int{stamp - 2, stamp - 3, -1, -2, math.MinInt, math.MinInt + 1} {
				choosesNone(t, []api.Record{r}, level)
			}
		}
	}
}

// P14.4: of two, and of more: the greatest Stamp that is not too late, wherever it stands.
func TestChooseMore(t *testing.T) {
	a, b, c := rec(1, 5), rec(2, 6), rec(3, 9)
	for _, l := range [][]api.Record{{a, b, c}, {a, c, b}, {b, a, c}, {b, c, a}, {c, a, b}, {c, b, a}} {
		for level, want := range map[int]api.Record{4: a, 5: b, 6: b, 7: b, 8: c, 9: c, 1 << 40: c, math.MaxInt: c} {
			chooses(t, l, level, want)
		}
		for _, level := range []int{3, 2, 0, -1, math.MinInt} {
			choosesNone(t, l, level)
		}
	}
}

// P14.4: of equal Stamps the first one, where all are equal, and behind lesser or later ones.
func TestChooseEqual(t *testing.T) {
	a, b, c := rec(4, 7), rec(2, 7), rec(9, 7)
	low, high := rec(50, 3), rec(60, 8)
	for _, l := range [][]api.Record{{a, b, c}, {b, a, c}, {c, b, a}, {a, a}, {b, a}} {
		chooses(t, l, 6, l[0])
		chooses(t, l, 7, l[0])
		choosesNone(t, l, 5)
		chooses(t, slices.Concat([]api.Record{low}, l), 6, l[0])
		chooses(t, slices.Concat([]api.Record{high, low}, l, []api.Record{low}), 6, l[0])
		chooses(t, slices.Concat(l, []api.Record{high, high}), 6, l[0])
		chooses(t, slices.Concat(l, []api.Record{high}), 7, high)
		chooses(t, slices.Concat([]api.Record{low}, l, []api.Record{low}), 4, low)
	}
}

// P14.4: by the greatest and the least levels, of records with any Stamps, which region.Put would refuse, too.
func TestChooseFar(t *testing.T) {
	numbers := append([]int{-1, 0, 1, 2, 1<<40 - 1, 1 << 40, math.MinInt + 2, math.MaxInt - 2}, far...)
	for _, stamp := range numbers {
		for _, other := range numbers {
			for _, level := range numbers {
				l := []api.Record{{Gen: 1, Stamp: stamp}, {Gen: 2, Stamp: other}}
				for n := range 3 {
					if want, ok := plainChoose(l[:n], level); ok {
						chooses(t, l[:n], level, want)
					} else {
						choosesNone(t, l[:n], level)
					}
				}
			}
		}
	}
	chooses(t, []api.Record{rec(1, math.MaxInt)}, math.MaxInt, rec(1, math.MaxInt))
	chooses(t, []api.Record{rec(1, math.MaxInt)}, math.MaxInt-1, rec(1, math.MaxInt))
	choosesNone(t, []api.Record{rec(1, math.MaxInt)}, math.MaxInt-2)
	chooses(t, []api.Record{rec(1, math.MinInt)}, math.MinInt, rec(1, math.MinInt))
	chooses(t, []api.Record{rec(1, math.MinInt+1)}, math.MinInt, rec(1, math.MinInt+1))
	choosesNone(t, []api.Record{rec(1, math.MinInt+2)}, math.MinInt)
}

// P14.4: lists by chance against the chapter's words made another way.
func TestChooseChance(t *testing.T) {
	r := rand.New(rand.NewSource(144))
	for range 20000 {
		l := make([]api.Record, r.Intn(7))
		for i := range l {
			l[i] = rec(i+1, 1+r.Intn(6))
		}
		level := r.Intn(9) - 1
		if want, ok := plainChoose(l, level); ok {
			chooses(t, l, level, want)
		} else {
			choosesNone(t, l, level)
		}
	}
}

// P14.3, P14.4: what All tells, Choose takes.
func TestAllChoose(t *testing.T) {
	for _, c := range crypts() {
		d := laid(t, 4)
		writes(t, d, c, rec(7, 5), 1)
		writes(t, d, c, rec(8, 6), 1)
		chooses(t, region.All(d, c), 5, rec(8, 6))
		chooses(t, region.All(d, c), 4, rec(7, 5))
		choosesNone(t, region.All(d, c), 3)
		lays(t, d, 1, nil)
		chooses(t, region.All(d, c), 5, rec(7, 5))
		lays(t, d, 2, nil)
		choosesNone(t, region.All(d, c), 5)
	}
}

// R3: what Put tells is new memory, in which no other answer lies.
func TestPutApart(t *testing.T) {
	for _, r := range ordinary() {
		want := plainBytes(r)
		a, e := region.Put(r)
		b, _ := region.Put(r)
		if e != api.OK {
			t.Errorf("%d", e)
		}
		for i := range a {
			a[i] ^= 255
		}
		_ = append(a, make([]byte, 100)...)
		if c, _ := region.Put(r); !bytes.Equal(b, want) || !bytes.Equal(c, want) {
			t.Errorf("%x, %x, not %x", b, c, want)
		}
	}
}

// R3: bytes that Get is handed stay as they were, what lies behind them too; what it tells is no part of them.
func TestGetApart(t *testing.T) {
	for _, r := range ordinary() {
		room := append(plainBytes(r), bytes.Repeat([]byte{7}, 100)...)
		was := bytes.Clone(room)
		x, e := region.Get(room[:size])
		region.Get(room)
		region.Get(room[:size-1])
		if e != api.OK || !bytes.Equal(room, was) {
			t.Errorf("%d: %x, not %x", e, room, was)
		}
		clear(room)
		if x != r {
			t.Errorf("behind a change of what was handed in: %v, not %v", x, r)
		}
	}
}

// R3: a list that All tells is new memory: another answer, and the disk, stay as they are.
func TestAllApart(t *testing.T) {
	for _, c := range crypts() {
		d := laid(t, 4)
		writes(t, d, c, whole(2), 1)
		writes(t, d, c, whole(3), 1)
		one, two := region.All(d, c), region.All(d, c)
		clear(one)
		_ = append(one[:1], rec(1, 1), rec(1, 1))
		if !slices.Equal(two, []api.Record{whole(2), whole(3)}) {
			t.Errorf("%v", two)
		}
		tells(t, d, c, whole(2), whole(3))
	}
}

// R3: a list that Choose is handed stays as it was, in its order, and what lies behind its end; what it tells is no part of it.
func TestChooseApart(t *testing.T) {
	room := []api.Record{rec(1, 9), rec(2, 3), rec(3, 7), rec(4, 3), rec(5, 5), rec(6, 6), rec(7, 1)}
	was := slices.Clone(room)
	for level := -1; level < 12; level++ {
		for n := range room {
			r, ok := region.Choose(room[:n], level)
			want, is := plainChoose(was[:n], level)
			if !slices.Equal(room, was) {
				t.Errorf("level %d, %d records: %v, not %v", level, n, room, was)
			}
			clear(room)
			if ok != is || r != want {
				t.Errorf("level %d, %d records: %v, not %v", level, n, r, want)
			}
			copy(room, was)
		}
	}
}

// R4: what was asked ahead makes no difference, what is refused among it.
func TestAskedAgain(t *testing.T) {
	for _, c := range crypts() {
		d := laid(t, 4)
		writes(t, d, c, whole(2), 1)
		for range 3 {
			mayNot(t, rec(0, 1))
			getsNone(t, make([]byte, 191), api.ErrForm)
			may(t, whole(4))
			getsNone(t, make([]byte, 193), api.ErrLong)
			writesNone(t, d, c, whole(4), -1, api.ErrRange)
			tells(t, d, c, whole(2))
			choosesNone(t, nil, 5)
			chooses(t, []api.Record{rec(1, 1)}, 0, rec(1, 1))
		}
	}
}
