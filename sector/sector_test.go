package sector_test

import (
	"bytes"
	"encoding/binary"
	"encoding/hex"
	"math"
	"math/rand"
	"slices"
	"testing"

	"rill/api"
	"rill/names"
	"rill/seal"
	"rill/sector"
)

// kinds are all that there are.
var kinds = []int{1, 2, 3, 4, 5}

// noKinds are none; some of them have the byte of one when they are cut.
var noKinds = []int{0, 6, 7, 255, -1, -4, -5, 256, 257, 260, 261, 262, -252, -251, 1 << 32, 1<<32 + 4, 1 << 62, math.MaxInt, math.MinInt, math.MinInt + 4}

// allowed are epochs and numbers that may be.
var allowed = []int{0, 1, 2, 255, 256, 1<<32 + 7, 0x0102030405, 1<<40 - 1, 1 << 40}

// refused are those below and above them.
var refused = []int{-1, -2, -256, -1 << 32, -1 << 40, math.MinInt, math.MinInt + 1, 1<<40 + 1, 1<<40 + 2, 1 << 41, 1 << 48, 1<<56 + 1, 1 << 62, math.MaxInt - 1, math.MaxInt}

// places are sectors of a disk.
var places = []int{0, 1, 2, 3, 255, 256, 1000, 4094, 4095}

// noPlaces are none; some of them are places when they are cut.
var noPlaces = []int{-1, -2, -4095, -4096, 4096, 4097, 8191, 1 << 16, 1<<16 + 3, 1<<32 + 3, -1<<32 + 3, 1 << 40, 1 << 62, math.MaxInt, math.MinInt, math.MinInt + 3}

// lengths are those of plain texts, about the ends of what a sector holds, and of the ciphers' blocks.
var lengths = []int{0, 1, 15, 16, 17, 31, 32, 33, 64, 500, 974, 975}

// text are bytes of all kinds.
func text(n int, seed int64) []byte {
	b := make([]byte, n)
	rand.New(rand.NewSource(seed)).Read(b)
	return b
}

// crypts are new ones of both sorts.
func crypts() []api.Crypt {
	return []api.Crypt{seal.New([]byte("key")), names.New()}
}

// data is a block's sector.
func data(epoch, number, at int, plain string) api.Sector {
	return api.Sector{Kind: api.KData, Epoch: epoch, Number: number, At: at, Plain: []byte(plain)}
}

// ending are bytes with a number's eight behind them, as the library of Go has them.
func ending(b []byte, n int) []byte {
	return binary.BigEndian.AppendUint64(bytes.Clone(b), uint64(n))
}

// front are the bytes that stand ahead of what is sealed.
func front(kind byte, epoch, number int) []byte { return ending(ending([]byte{kind}, epoch), number) }

// head is what a sector is sealed under.
func head(kind byte, at int) []byte { return ending([]byte{kind}, at) }

// put is what the chapter's words say of Put.
func put(c api.Crypt, s api.Sector) ([]byte, api.Errno) {
	if s.Kind < 1 || s.Kind > 5 {
		return nil, api.ErrKind
	}
	if min(s.Epoch, s.Number, s.At) < 0 || max(s.Epoch, s.Number) > 1<<40 || s.At > 4095 {
		return nil, api.ErrRange
	}
	if len(s.Plain) > 975 {
		return nil, api.ErrLong
	}
	k := byte(s.Kind)
	return append(front(k, s.Epoch, s.Number), c.Seal(s.Epoch, s.Number, head(k, s.At), s.Plain)...), api.OK
}

// get is what they say of Get.
func get(c api.Crypt, kind, at int, b []byte) (api.Sector, api.Errno) {
	if len(b) < 17 {
		return api.Sector{}, api.ErrShort
	}
	if len(b) > 1024 {
		return api.Sector{}, api.ErrLong
	}
	if kind < 1 || kind > 5 || b[0] != byte(kind) {
		return api.Sector{}, api.ErrKind
	}
	epoch, number := binary.BigEndian.Uint64(b[1:9]), binary.BigEndian.Uint64(b[9:17])
	if epoch > 1<<40 || number > 1<<40 || at < 0 || at > 4095 {
		return api.Sector{}, api.ErrRange
	}
	plain, ok := c.Open(int(epoch), int(number), head(b[0], at), b[17:])
	if !ok {
		return api.Sector{}, api.ErrSeal
	}
	return api.Sector{Kind: kind, Epoch: int(epoch), Number: int(number), At: at, Plain: plain}, api.OK
}

// alike tells whether two sectors are one, whether a list is nil or empty.
func alike(a, b api.Sector) bool {
	return a.Kind == b.Kind && a.Epoch == b.Epoch && a.Number == b.Number && a.At == b.At && bytes.Equal(a.Plain, b.Plain)
}

// puts are a sector's bytes; the test is told if they are not those that the chapter words.
func puts(t *testing.T, c api.Crypt, s api.Sector) []byte {
	t.Helper()
	b, e := sector.Put(c, s)
	want, _ := put(c, s)
	if e != api.OK || !bytes.Equal(b, want) {
		t.Fatalf("Put %v: %x, %d, not %x", s, b, e, want)
	}
	return b
}

// putsNone tells of a call of Put that does not answer an error alone.
func putsNone(t *testing.T, c api.Crypt, s api.Sector, want api.Errno) {
	t.Helper()
	if b, e := sector.Put(c, s); e != want || b != nil {
		t.Errorf("Put {%d, %d, %d, %d, %d bytes}: %x, %d, not %d", s.Kind, s.Epoch, s.Number, s.At, len(s.Plain), b, e, want)
	}
}

// gets tells of bytes that are not a sector.
func gets(t *testing.T, c api.Crypt, b []byte, want api.Sector) {
	t.Helper()
	if s, e := sector.Get(c, want.Kind, want.At, b); e != api.OK || !alike(s, want) {
		t.Errorf("Get %x: %v, %d, not %v", b, s, e, want)
	}
}

// getsNone tells of a call of Get that does not answer an error alone.
func getsNone(t *testing.T, c api.Crypt, kind, at int, b []byte, want api.Errno) {
	t.Helper()
	if s, e := sector.Get(c, kind, at, b); e != want || s.Plain != nil || !alike(s, api.Sector{}) {
		t.Errorf("Get(%d, %d, %x): %v, %d, not %d", kind, at, b, s, e, want)
	}
}

// The chapter's examples.
func TestExamples(t *testing.T) {
	for _, c := range crypts() {
		s := data(1, 2, 3, "plain")
		b := puts(t, c, s)
		if len(b) != 17+5+32 || b[0] != 4 {
			t.Errorf("%x", b)
		}
		gets(t, c, b, s)
		getsNone(t, c, api.KNode, 3, b, api.ErrKind)
		getsNone(t, c, api.KData, 4, b, api.ErrSeal)
		putsNone(t, c, api.Sector{Kind: 6}, api.ErrKind)
		putsNone(t, c, api.Sector{Kind: api.KData, Epoch: -1}, api.ErrRange)
		putsNone(t, c, api.Sector{Kind: api.KData, Plain: make([]byte, 976)}, api.ErrLong)
		getsNone(t, c, api.KData, 3, make([]byte, 16), api.ErrShort)
		getsNone(t, c, api.KData, 3, make([]byte, 1025), api.ErrLong)
	}
}

// P11.1, P11.2: sectors of each kind that another program has made (openssl's cipher, Python's sums).
func TestOtherProgram(t *testing.T) {
	c := seal.New([]byte("key"))
	for _, x := range []struct {
		kind, epoch, number, at int
		plain, want             string
	}{
		{1, 0, 0, 0, "", "0100000000000000000000000000000000e8bcbd7be62311e672dd6eeba2e621a5a4061b1784aca55a1a2d7294b994b4c7"},
		{2, 3, 4, 2, "a region's record", "020000000000000003000000000000000484763ad14aaa2f8cd0c41deb9b82f1e3c5724b752e34fb7cda932eb3ae61e862a1476ee535f23ddf246e765d6f1f6dc5b4"},
		{3, 256, 65537, 1000, "a summary", "030000000000000100000000000001000111feca2854b31ddd0c04154d80f5e1b785aaa5a9b6993bde9166fc3fc23b192eb0b4978d70cc3f7c56"},
		{4, 1, 2, 3, "plain", "040000000000000001000000000000000203a4534594c059348880c463cbeaefaf57b247dae9f8a2f5ab402588e742cfcb995bfe5ea6"},
		{5, 1 << 40, 1 << 40, 4095, "xxxxxxxxxxxxxxxxxxxx", "05000001000000000000000100000000007d9ec70d3ab0e6160143b01354e5f80b4ea6158f01d536dbe85d9301059fd2741fc470975714a8d0f82d9adeed8d3e0ed2370fe5"},
	} {
		s := api.Sector{Kind: x.kind, Epoch: x.epoch, Number: x.number, At: x.at, Plain: []byte(x.plain)}
		b, e := sector.Put(c, s)
		if e != api.OK || hex.EncodeToString(b) != x.want {
			t.Errorf("%v: %x, %d", s, b, e)
		}
		b, _ = hex.DecodeString(x.want)
		gets(t, c, b, s)
	}
}

// P11.1, P11.2: sectors of a Names, written out.
func TestWritten(t *testing.T) {
	c := names.New()
	for i, x := range []struct {
		kind, epoch, number, at int
		plain, front            string
	}{
		{1, 0, 0, 0, "", "\x01\x00\x00\x00\x00\x00\x00\x00\x00\x00\x00\x00\x00\x00\x00\x00\x00"},
		{2, 1, 2, 1, "record", "\x02\x00\x00\x00\x00\x00\x00\x00\x01\x00\x00\x00\x00\x00\x00\x00\x02"},
		{3, 1 << 40, 0, 4095, "s", "\x03\x00\x00\x01\x00\x00\x00\x00\x00\x00\x00\x00\x00\x00\x00\x00\x00"},
		{4, 258, 1<<40 - 1, 3, "block", "\x04\x00\x00\x00\x00\x00\x00\x01\x02\x00\x00\x00\xff\xff\xff\xff\xff"},
		{5, 3, 1 << 40, 4094, "node", "\x05\x00\x00\x00\x00\x00\x00\x00\x03\x00\x00\x01\x00\x00\x00\x00\x00"},
	} {
		s := api.Sector{Kind: x.kind, Epoch: x.epoch, Number: x.number, At: x.at, Plain: []byte(x.plain)}
		want := x.front + x.plain + string(make([]byte, 31)) + string(rune(i+1))
		if b, e := sector.Put(c, s); e != api.OK || string(b) != want {
			t.Errorf("%v: %x, %d, not %x", s, b, e, want)
		}
		gets(t, c, []byte(want), s)
	}
}

// P11.1, P11.4: sectors of each kind, with epochs, numbers and places about all ends, and back; put again, they are the same bytes.
func TestPut(t *testing.T) {
	for _, c := range crypts() {
		for _, kind := range kinds {
			for _, epoch := range allowed {
				for _, number := range allowed {
					for _, at := range places {
						s := api.Sector{Kind: kind, Epoch: epoch, Number: number, At: at, Plain: text(20, int64(at))}
						b := puts(t, c, s)
						gets(t, c, b, s)
						if sector.Kind(b) != kind {
							t.Errorf("Kind: %d, not %d", sector.Kind(b), kind)
						}
					}
				}
			}
		}
	}
}

// P11.1, P11.4: plain texts of all lengths that may be, and one more.
func TestLengths(t *testing.T) {
	for _, c := range crypts() {
		for n := range 976 {
			s := api.Sector{Kind: kinds[n%5], Epoch: n, Number: 3 * n, At: 4 * n, Plain: text(n, 1)}
			b := puts(t, c, s)
			if len(b) != 17+n+32 || len(b) > api.SectorSize {
				t.Errorf("%d bytes of %d", len(b), n)
			}
			gets(t, c, b, s)
			again, e := sector.Get(c, s.Kind, s.At, b)
			if x := puts(t, c, again); e != api.OK || !bytes.Equal(x, b) {
				t.Errorf("%d bytes, again: %x, not %x", n, x, b)
			}
		}
		for _, n := range []int{976, 977, 1024, 1025, 1 << 16} {
			for _, kind := range kinds {
				putsNone(t, c, api.Sector{Kind: kind, Plain: make([]byte, n)}, api.ErrLong)
			}
		}
	}
}

// P11.1, P11.2: a plain text may be nil or empty: they are one.
func TestNone(t *testing.T) {
	for _, c := range crypts() {
		want := puts(t, c, api.Sector{Kind: 5})
		for _, none := range [][]byte{nil, {}, make([]byte, 0, 50), text(50, 2)[:0], text(50, 2)[50:]} {
			if b := puts(t, c, api.Sector{Kind: 5, Plain: none}); !bytes.Equal(b, want) || len(b) != 49 {
				t.Errorf("%x, not %x", b, want)
			}
			gets(t, c, want, api.Sector{Kind: 5, Plain: none})
			getsNone(t, c, 5, 0, none, api.ErrShort)
			if k := sector.Kind(none); k != 0 {
				t.Error("Kind of none", k)
			}
		}
	}
}

// P11.1: each thing that is out of its place, alone, beside others that are at their ends.
func TestPutErrors(t *testing.T) {
	for _, c := range crypts() {
		for _, kind := range noKinds {
			putsNone(t, c, api.Sector{Kind: kind}, api.ErrKind)
			putsNone(t, c, api.Sector{Kind: kind, Epoch: 1 << 40, Number: 1 << 40, At: 4095, Plain: make([]byte, 975)}, api.ErrKind)
		}
		for _, kind := range kinds {
			for _, bad := range refused {
				for _, s := range []api.Sector{{Epoch: bad}, {Number: bad}, {Epoch: bad, Number: bad}, {Epoch: bad, Number: 1 << 40, At: 4095}, {Epoch: 1 << 40, Number: bad, At: 4095}} {
					s.Kind = kind
					putsNone(t, c, s, api.ErrRange)
				}
			}
			for _, at := range noPlaces {
				putsNone(t, c, api.Sector{Kind: kind, At: at}, api.ErrRange)
				putsNone(t, c, api.Sector{Kind: kind, Epoch: 1 << 40, Number: 1 << 40, At: at, Plain: make([]byte, 975)}, api.ErrRange)
			}
			puts(t, c, api.Sector{Kind: kind, Epoch: 1 << 40, Number: 1 << 40, At: 4095, Plain: make([]byte, 975)})
		}
	}
}

// P11.1: where several things are wrong: each of these with each.
func TestPutOrder(t *testing.T) {
	numbers := []int{0, 1 << 40, -1, 1<<40 + 1, math.MinInt, math.MaxInt}
	for _, c := range crypts() {
		for _, kind := range []int{0, 1, 4, 5, 6, -1, 260, math.MinInt} {
			for _, epoch := range numbers {
				for _, number := range numbers {
					for _, at := range []int{0, 4095, -1, 4096, math.MinInt, math.MaxInt} {
						for _, n := range []int{0, 975, 976} {
							s := api.Sector{Kind: kind, Epoch: epoch, Number: number, At: at, Plain: make([]byte, n)}
							want, e := put(c, s)
							if e != api.OK {
								putsNone(t, c, s, e)
							} else if b := puts(t, c, s); !bytes.Equal(b, want) {
								t.Errorf("%v: %x, not %x", s, b, want)
							}
						}
					}
				}
			}
		}
	}
}

// P11.1: written out: which error is the first one.
func TestPutFirst(t *testing.T) {
	long := make([]byte, 976)
	for _, x := range []struct {
		s    api.Sector
		want api.Errno
	}{
		{api.Sector{}, api.ErrKind},
		{api.Sector{Kind: 0, Epoch: -1, Plain: long}, api.ErrKind},
		{api.Sector{Kind: 6, At: 4096}, api.ErrKind},
		{api.Sector{Kind: 6, Plain: long}, api.ErrKind},
		{api.Sector{Kind: 1, Epoch: -1, Plain: long}, api.ErrRange},
		{api.Sector{Kind: 1, Number: 1<<40 + 1, Plain: long}, api.ErrRange},
		{api.Sector{Kind: 5, At: 4096, Plain: long}, api.ErrRange},
		{api.Sector{Kind: 5, At: -1, Plain: long}, api.ErrRange},
		{api.Sector{Kind: 5, At: 4095, Plain: long}, api.ErrLong},
	} {
		for _, c := range crypts() {
			putsNone(t, c, x.s, x.want)
		}
	}
}

// P11.2: bytes of all lengths: too few, too many, and those that are no sector's.
func TestGetLengths(t *testing.T) {
	for _, c := range crypts() {
		for n := range 1100 {
			want := api.ErrSeal
			switch {
			case n < 17:
				want = api.ErrShort
			case n > 1024:
				want = api.ErrLong
			}
			for _, kind := range kinds {
				b := text(n, 3)
				copy(b, front(byte(kind), n, 2*n))
				getsNone(t, c, kind, n, b, want)
			}
		}
		for _, n := range []int{0, 1, 8, 15, 16} {
			getsNone(t, c, 4, 3, front(4, 1, 2)[:n], api.ErrShort)
			getsNone(t, c, 0, -1, make([]byte, n), api.ErrShort)
			getsNone(t, c, 6, 4096, bytes.Repeat([]byte{255}, n), api.ErrShort)
		}
		for _, n := range []int{17, 17 + 31, 17 + 32, 1023, 1024} {
			getsNone(t, c, 4, 3, append(front(4, 1, 2), make([]byte, n-17)...), api.ErrSeal)
		}
		for _, n := range []int{1025, 1026, 2048, 1 << 16, 1 << 20} {
			getsNone(t, c, 4, 3, append(front(4, 1, 2), make([]byte, n-17)...), api.ErrLong)
			getsNone(t, c, 0, -1, make([]byte, n), api.ErrLong)
			getsNone(t, c, 6, 4096, bytes.Repeat([]byte{255}, n), api.ErrLong)
		}
	}
}

// P11.2: each first byte, got as each kind, and as what is none.
func TestGetKind(t *testing.T) {
	asked := slices.Concat(kinds, noKinds)
	for _, c := range crypts() {
		b := puts(t, c, data(1, 2, 3, "plain"))
		for first := range 256 {
			b[0] = byte(first)
			for _, kind := range append(asked, first) {
				want := api.ErrKind
				switch {
				case kind != first || kind < 1 || kind > 5:
				case kind == 4:
					gets(t, c, b, data(1, 2, 3, "plain"))
					continue
				default:
					want = api.ErrSeal
				}
				getsNone(t, c, kind, 3, b, want)
			}
		}
	}
}

// P11.2: the epoch and the number in the bytes, or the place, are out of their places.
func TestGetRange(t *testing.T) {
	for _, c := range crypts() {
		for _, kind := range kinds {
			s := api.Sector{Kind: kind, Epoch: 1, Number: 2, At: 3, Plain: []byte("plain")}
			b := puts(t, c, s)
			for _, at := range noPlaces {
				getsNone(t, c, kind, at, b, api.ErrRange)
			}
			for _, bad := range refused {
				for _, n := range slices.Concat([]int{1, 2}, allowed, refused) {
					for _, f := range [][]byte{front(byte(kind), bad, n), front(byte(kind), n, bad)} {
						getsNone(t, c, kind, 3, f, api.ErrRange)
						getsNone(t, c, kind, 3, append(f, b[17:]...), api.ErrRange)
						getsNone(t, c, kind, 4096, append(f, b[17:]...), api.ErrRange)
					}
				}
			}
			for _, epoch := range allowed {
				for _, number := range allowed {
					if epoch != 1 || number != 2 {
						getsNone(t, c, kind, 3, append(front(byte(kind), epoch, number), b[17:]...), api.ErrSeal)
					}
				}
			}
			gets(t, c, b, s)
		}
	}
}

// P11.2: written out: which error is the first one.
func TestGetFirst(t *testing.T) {
	whole := func(kind byte, epoch, number, n int) []byte {
		return append(front(kind, epoch, number), make([]byte, n-17)...)
	}
	for _, x := range []struct {
		kind, at int
		b        []byte
		want     api.Errno
	}{
		{0, -1, nil, api.ErrShort},
		{4, 4096, whole(5, -1, -1, 17)[:16], api.ErrShort},
		{4, 4096, whole(5, -1, -1, 1025), api.ErrLong},
		{0, -1, whole(0, -1, -1, 1025), api.ErrLong},
		{4, 4096, whole(5, -1, -1, 1024), api.ErrKind},
		{5, 3, whole(4, 1, 2, 100), api.ErrKind},
		{0, 3, whole(0, 1, 2, 100), api.ErrKind},
		{6, 3, whole(6, 1, 2, 100), api.ErrKind},
		{6, -1, whole(6, -1, 2, 17), api.ErrKind},
		{260, 3, whole(4, 1, 2, 17), api.ErrKind},
		{4, 3, whole(4, -1, 2, 17), api.ErrRange},
		{4, 3, whole(4, 1, 1<<40+1, 1024), api.ErrRange},
		{4, 4096, whole(4, 1, 2, 17), api.ErrRange},
		{4, -1, whole(4, 1, 2, 1024), api.ErrRange},
		{4, 4095, whole(4, 1<<40, 1<<40, 17), api.ErrSeal},
		{4, 4095, whole(4, 1<<40, 1<<40, 1024), api.ErrSeal},
	} {
		for _, c := range crypts() {
			getsNone(t, c, x.kind, x.at, x.b, x.want)
		}
	}
}

// P11.2, P11.5: another kind, whatever the first byte says, and another place.
func TestOther(t *testing.T) {
	for _, c := range crypts() {
		for _, kind := range kinds {
			for _, at := range places {
				s := api.Sector{Kind: kind, Epoch: 7, Number: 8, At: at, Plain: []byte("plain")}
				b := puts(t, c, s)
				for _, other := range kinds {
					if other != kind {
						getsNone(t, c, other, at, b, api.ErrKind)
						getsNone(t, c, other, at, slices.Concat([]byte{byte(other)}, b[1:]), api.ErrSeal)
					}
				}
				for other := range 4096 {
					if other != at {
						getsNone(t, c, kind, other, b, api.ErrSeal)
					}
				}
				gets(t, c, b, s)
			}
		}
	}
}

// P11.2, P11.5: another key, another Names, and a Box in the place of a Names.
func TestOtherCrypt(t *testing.T) {
	for i, kind := range kinds {
		all := []api.Crypt{seal.New([]byte("key")), seal.New([]byte("kez")), seal.New(nil), names.New(), names.New()}
		for k, c := range all {
			s := api.Sector{Kind: kind, Epoch: 7, Number: 8, At: 9, Plain: append(text(i*100, 4), byte(k))}
			b := puts(t, c, s)
			for _, other := range all {
				if other != c {
					getsNone(t, other, kind, 9, b, api.ErrSeal)
				}
			}
			gets(t, c, b, s)
		}
	}
}

// P11.5: another Names has the same numbers: its sectors are not found, but those that both have made.
func TestOtherNames(t *testing.T) {
	x, y := names.New(), names.New()
	both := data(1, 2, 3, "both")
	first, second := puts(t, x, both), puts(t, y, both)
	gets(t, x, second, both)
	gets(t, y, first, both)
	for i := range 20 {
		mine, its := data(i, 2, 3, "mine"), data(i, 2, 3, "its ")
		a, b := puts(t, x, mine), puts(t, y, its)
		if !bytes.Equal(a[21:], b[21:]) {
			t.Errorf("%x and %x: unlike numbers", a, b)
		}
		gets(t, x, a, mine)
		gets(t, y, b, its)
		getsNone(t, x, 4, 3, b, api.ErrSeal)
		getsNone(t, y, 4, 3, a, api.ErrSeal)
	}
}

// P11.2, P11.5: each bit of a sector's bytes turned.
func TestTurned(t *testing.T) {
	for _, c := range crypts() {
		for _, n := range lengths {
			for _, kind := range []int{1, 4, 5} {
				s := api.Sector{Kind: kind, Epoch: 0x0102030405, Number: 1 << 40, At: 300, Plain: text(n, 5)}
				b := puts(t, c, s)
				for bit := range 8 * len(b) {
					b[bit/8] ^= 1 << (bit % 8)
					_, want := get(c, kind, 300, b)
					if want == api.OK || bit >= 8*17 && want != api.ErrSeal {
						t.Errorf("bit %d: %d", bit, want)
					}
					getsNone(t, c, kind, 300, b, want)
					if first := int(b[0]); first >= 1 && first <= 5 {
						_, want = get(c, first, 300, b)
						getsNone(t, c, first, 300, b, want)
					}
					b[bit/8] ^= 1 << (bit % 8)
				}
				gets(t, c, b, s)
			}
		}
	}
}

// P11.2, P11.5: each byte of a sector's bytes with each other value.
func TestSpoilt(t *testing.T) {
	for _, c := range crypts() {
		s := data(1, 2, 3, "plain")
		b := puts(t, c, s)
		for i, was := range b {
			for v := range 256 {
				if byte(v) == was {
					continue
				}
				b[i] = byte(v)
				_, want := get(c, 4, 3, b)
				if want == api.OK || i == 0 && want != api.ErrKind || i >= 17 && want != api.ErrSeal {
					t.Errorf("byte %d: %d", i, want)
				}
				getsNone(t, c, 4, 3, b, want)
			}
			b[i] = was
		}
		gets(t, c, b, s)
	}
}

// P11.2, P11.5: a sector's bytes cut off, at either end, with what was cut lying behind; with bytes behind them, and ahead.
func TestCut(t *testing.T) {
	for _, c := range crypts() {
		for _, n := range []int{0, 1, 5, 32, 974, 975} {
			s := api.Sector{Kind: 4, Epoch: 1, Number: 2, At: 3, Plain: text(n, 6)}
			b := puts(t, c, s)
			for end := range len(b) {
				want := api.ErrSeal
				if end < 17 {
					want = api.ErrShort
				}
				getsNone(t, c, 4, 3, b[:end], want)
			}
			for start := 1; start < len(b); start++ {
				if _, e := sector.Get(c, 4, 3, b[start:]); e == api.OK {
					t.Error("cut at its beginning", start)
				}
			}
			for _, more := range []int{1, 2, 31, 32, 33, 900} {
				behind, ahead := api.ErrSeal, api.ErrRange
				if len(b)+more > 1024 {
					behind, ahead = api.ErrLong, api.ErrLong
				}
				getsNone(t, c, 4, 3, append(bytes.Clone(b), make([]byte, more)...), behind)
				getsNone(t, c, 4, 3, append(bytes.Clone(b), text(more, 7)...), behind)
				getsNone(t, c, 4, 3, append(bytes.Repeat([]byte{4}, more), b...), ahead)
			}
			gets(t, c, b, s)
		}
	}
}

// P11.3: bytes that are too short, and of each first byte; how many there are beyond 17, and what they are, makes no difference.
func TestKind(t *testing.T) {
	for first := range 256 {
		for _, n := range []int{1, 2, 8, 15, 16, 17, 18, 48, 49, 1023, 1024, 1025, 5000} {
			want := 0
			if n >= 17 && first >= 1 && first <= 5 {
				want = first
			}
			for _, b := range [][]byte{make([]byte, n), bytes.Repeat([]byte{255}, n), bytes.Repeat([]byte{4}, n), text(n+20, 8)[:n]} {
				b[0] = byte(first)
				if k := sector.Kind(b); k != want {
					t.Errorf("Kind of %d bytes, the first %d: %d, not %d", n, first, k, want)
				}
			}
		}
	}
	if a, b := sector.Kind(nil), sector.Kind([]byte{}); a != 0 || b != 0 {
		t.Error("Kind of none", a, b)
	}
}

// P11.5: with a Names: of all bytes that can be put together of two sectors' bytes, just those that Put made, for that kind and place, are found.
func TestFound(t *testing.T) {
	c := names.New()
	type found struct {
		kind, at int
		b        string
	}
	made := map[found]api.Sector{}
	var all [][]byte
	for _, kind := range kinds {
		for i, at := range []int{0, 3, 4095} {
			for _, plain := range []string{"", "plain"} {
				s := api.Sector{Kind: kind, Epoch: 1, Number: 2 + i%2, At: at, Plain: []byte(plain)}
				b := puts(t, c, s)
				made[found{kind, at, string(b)}] = s
				all = append(all, b)
			}
		}
	}
	ask := func(b []byte) {
		for _, kind := range kinds {
			for _, at := range []int{0, 3, 4, 4095} {
				if s, was := made[found{kind, at, string(b)}]; was {
					gets(t, c, b, s)
				} else if _, e := sector.Get(c, kind, at, b); e == api.OK {
					t.Errorf("Get(%d, %d, %x): found", kind, at, b)
				}
			}
		}
	}
	for _, a := range all {
		for _, b := range all {
			for _, cut := range []int{1, 9, 17, len(a) - 32, len(a) - 8, len(a)} {
				ask(slices.Concat(a[:cut], b[min(cut, len(b)):]))
			}
			ask(slices.Concat(a[:len(a)-32], b[len(b)-32:]))
			ask(slices.Concat(a[:17], b))
			ask(slices.Concat(b[:1], a[9:17], a[1:9], b[17:]))
		}
	}
}

// P11.5: what a Names has sealed under other heads is no sector.
func TestOtherHeads(t *testing.T) {
	for _, c := range crypts() {
		h := head(4, 3)
		for _, other := range [][]byte{nil, {4}, {3}, {4, 3}, h[1:], h[:8], append(h[1:], 4), append(bytes.Clone(h), 0), head(0, 3), head(3, 4), head(4, 3<<8), {4, 3, 0, 0, 0, 0, 0, 0, 0}, front(4, 1, 2), front(4, 3, 1)} {
			b := append(front(4, 1, 2), c.Seal(1, 2, other, []byte("plain"))...)
			getsNone(t, c, 4, 3, b, api.ErrSeal)
		}
		b := append(front(4, 1, 2), c.Seal(1, 2, h, []byte("plain"))...)
		gets(t, c, b, data(1, 2, 3, "plain"))
	}
}

// P11.1, P11.2: whatever is asked is as the chapter's words say, of numbers and bytes that chance has put together.
func TestAny(t *testing.T) {
	r := rand.New(rand.NewSource(9))
	one := func(usual, seldom []int) int {
		if r.Intn(8) == 0 {
			usual = seldom
		}
		return usual[r.Intn(len(usual))]
	}
	for _, c := range crypts() {
		var last []byte
		for range 20000 {
			s := api.Sector{Kind: one(kinds, noKinds), Epoch: one(allowed, refused), Number: one(allowed, refused), At: one(places, noPlaces), Plain: text(one(lengths, []int{976, 2000}), 10)}
			want, e := put(c, s)
			if e != api.OK {
				putsNone(t, c, s, e)
				continue
			}
			b := puts(t, c, s)
			if !bytes.Equal(b, want) {
				t.Fatalf("%v: %x, not %x", s, b, want)
			}
			kind, at := s.Kind, s.At
			switch r.Intn(8) {
			case 0:
				kind = one(kinds, noKinds)
			case 1:
				at = one(places, noPlaces)
			case 2:
				b = append(front(byte(s.Kind), one(allowed, refused), one(allowed, refused)), b[17:]...)
			case 3:
				b = b[:r.Intn(len(b))]
			case 4:
				b = append(b, text(r.Intn(100), 11)...)
			case 5:
				b = slices.Concat(b[:17], last)
			}
			last = bytes.Clone(b[min(17, len(b)):])
			if x, e := get(c, kind, at, b); e != api.OK {
				getsNone(t, c, kind, at, b, e)
			} else {
				gets(t, c, b, x)
			}
		}
	}
}

// R3: what Put is handed stays as it was, and what lies behind its end; the bytes are new memory.
func TestPutApart(t *testing.T) {
	for _, c := range crypts() {
		for _, n := range []int{0, 1, 5, 975} {
			for _, spare := range []int{0, 1, 17, 32, 2000} {
				whole := text(n+spare, int64(n))
				was := bytes.Clone(whole)
				s := api.Sector{Kind: 4, Epoch: 1, Number: 2, At: 3, Plain: whole[:n]}
				b, again := puts(t, c, s), puts(t, c, s)
				want := bytes.Clone(b)
				for i := range b {
					b[i] ^= 255
				}
				_ = append(b, text(100, 12)...)
				if !bytes.Equal(whole, was) || !bytes.Equal(again, want) {
					t.Errorf("%d bytes, %d behind: an answer shares memory", n, spare)
				}
				clear(whole)
				if !bytes.Equal(again, want) {
					t.Errorf("%d bytes, %d behind: what was handed in is shared", n, spare)
				}
				gets(t, c, again, api.Sector{Kind: 4, Epoch: 1, Number: 2, At: 3, Plain: was[:n]})
			}
		}
		whole := text(2000, 13)
		putsNone(t, c, api.Sector{Kind: 4, Plain: whole[:976]}, api.ErrLong)
		if !bytes.Equal(whole, text(2000, 13)) {
			t.Error("what was refused was changed")
		}
	}
}

// R3: what Get and Kind are handed stays as it was, and what lies behind its end; the plain text is new memory.
func TestGetApart(t *testing.T) {
	for _, c := range crypts() {
		for _, n := range []int{0, 1, 5, 975} {
			for _, spare := range []int{0, 1, 17, 32, 2000} {
				s := api.Sector{Kind: 4, Epoch: 1, Number: 2, At: 3, Plain: text(n, 14)}
				whole := append(puts(t, c, s), text(spare, 15)...)
				was, b := bytes.Clone(whole), whole[:49+n]
				one, _ := sector.Get(c, 4, 3, b)
				two, _ := sector.Get(c, 4, 3, b)
				sector.Kind(b)
				getsNone(t, c, 4, 4, b, api.ErrSeal)
				getsNone(t, c, 4, 3, b[:48+n], api.ErrSeal)
				for i := range one.Plain {
					one.Plain[i] ^= 255
				}
				_ = append(one.Plain, text(100, 16)...)
				if !bytes.Equal(whole, was) || !alike(two, s) {
					t.Errorf("%d bytes, %d behind: an answer shares memory", n, spare)
				}
				gets(t, c, b, s)
				clear(whole)
				if !alike(two, s) {
					t.Errorf("%d bytes, %d behind: what was handed in is shared", n, spare)
				}
			}
		}
	}
}

// R2, R4: what is refused, or got, is not remembered: a Names numbers just the sectors that were put; and what was asked ahead makes no difference.
func TestNothingRemembered(t *testing.T) {
	c := names.New()
	for k := 1; k < 20; k++ {
		s := data(k, 2, 3, "plain")
		want := append(front(4, k, 2), ending([]byte("plain"+string(make([]byte, 24))), k)...)
		for range 2 {
			if b, e := sector.Put(c, s); e != api.OK || !bytes.Equal(b, want) {
				t.Errorf("%x, %d, not %x", b, e, want)
			}
			gets(t, c, want, s)
			putsNone(t, c, api.Sector{Kind: 6, Epoch: 100}, api.ErrKind)
			putsNone(t, c, api.Sector{Kind: 4, Epoch: 100, At: 4096}, api.ErrRange)
			putsNone(t, c, api.Sector{Kind: 4, Epoch: 100, Plain: make([]byte, 976)}, api.ErrLong)
			getsNone(t, c, 4, 4, want, api.ErrSeal)
			getsNone(t, c, 5, 3, want, api.ErrKind)
			getsNone(t, c, 4, 3, want[:17], api.ErrSeal)
			sector.Kind(want)
		}
	}
	if s := c.Sum([]byte("text")); s[31] != 1 {
		t.Errorf("a text was summed: %x", s)
	}
}
