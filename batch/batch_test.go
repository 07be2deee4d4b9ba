package batch_test

import (
	"bytes"
	"encoding/binary"
	"encoding/hex"
	"math"
	"math/rand"
	"runtime"
	"slices"
	"strings"
	"testing"

	"rill/api"
	"rill/batch"
)

// far are numbers that are out of every place; some of them are in one when they are cut.
var far = []int{-2, -3, -256, -1 << 32, -1 << 40, math.MinInt, math.MinInt + 1, math.MinInt + 2, 1<<40 + 1, 1<<40 + 2, 1 << 41, 1<<56 + 1, 1 << 62, math.MaxInt - 1, math.MaxInt}

// full is a digest in which no byte is 0, and no two are one.
func full(first byte) api.Sum {
	var s api.Sum
	for i := range s {
		s[i] = first + byte(i)
	}
	return s
}

// data is a block's entry.
func data(block, slot int) api.Entry {
	return api.Entry{Kind: api.EData, Block: block, Slot: slot, Sum: full(byte(1 + slot))}
}

// node is a node's entry.
func node(index, slot int) api.Entry {
	return api.Entry{Kind: api.ENode, Block: index, Slot: slot, Sum: full(byte(101 + slot))}
}

// trim is a trim's entry.
func trim(block int) api.Entry { return api.Entry{Kind: api.ETrim, Block: block} }

// of is a summary of these entries.
func of(l ...api.Entry) api.Summary {
	return api.Summary{Stamp: 7, Prev: full(50), Next: 2, Entries: l}
}

// row are so many entries of a kind, in slots that are in order.
func row(kind, n int) []api.Entry {
	var l []api.Entry
	for i := range n {
		switch kind {
		case api.EData:
			l = append(l, data(63-i, 3+i))
		case api.ENode:
			l = append(l, node(i%9, 48+i))
		default:
			l = append(l, trim(4*i%64))
		}
	}
	return l
}

// mixed are so many entries of all three kinds, by turns.
func mixed(n, first int) []api.Entry {
	var l []api.Entry
	for i := range n {
		switch i % 3 {
		case 0:
			l = append(l, data(i, first))
			first++
		case 1:
			l = append(l, trim(63-i))
		default:
			l = append(l, node(i%9, first))
			first++
		}
	}
	return l
}

// ordinary are summaries that may be.
func ordinary() []api.Summary {
	l := []api.Summary{{Next: -1}, {}, {Stamp: 3, Next: -1}, {Stamp: 1 << 40, Prev: full(1), Next: 31}, {Prev: api.Sum{31: 1}}, of()}
	for n := range 17 {
		for _, kind := range []int{api.EData, api.ETrim, api.ENode} {
			l = append(l, of(row(kind, n)...))
		}
		l = append(l, of(mixed(n, n)...), of(mixed(n, 53)...))
	}
	return append(l,
		of(trim(5), trim(5), data(5, 0)), of(data(5, 63), trim(5)), of(node(0, 63)), of(trim(0), node(8, 0), trim(63), trim(1), data(0, 1), trim(2)),
		of(api.Entry{Kind: api.EData}), of(api.Entry{Kind: api.ENode}), of(api.Entry{Kind: api.ETrim}), of(data(9, 4), data(9, 5), data(9, 6)))
}

// sparse is the summary of which its bytes are turned: each field has a value of its own.
func sparse() api.Summary {
	return api.Summary{Stamp: 0x0102030405, Prev: full(7), Next: 9, Entries: []api.Entry{data(33, 20), trim(34), node(6, 21)}}
}

// plainCheck is what the chapter's words say of Check.
func plainCheck(s api.Summary) api.Errno {
	if len(s.Entries) > 16 {
		return api.ErrMany
	}
	if s.Stamp < 0 || s.Stamp > 1<<40 || s.Next < -1 || s.Next > 31 {
		return api.ErrRange
	}
	ahead := -1
	for _, x := range s.Entries {
		if x.Kind < 1 || x.Kind > 3 {
			return api.ErrKind
		}
		blocks, slots := 64, 64
		switch x.Kind {
		case 2:
			slots = 1
		case 3:
			blocks = 9
		}
		if min(x.Block, x.Slot) < 0 || x.Block >= blocks || x.Slot >= slots || x.Kind == 2 && x.Sum != (api.Sum{}) {
			return api.ErrRange
		}
		if x.Kind == 2 {
			continue
		}
		if ahead >= 0 && x.Slot-ahead != 1 {
			return api.ErrOrder
		}
		ahead = x.Slot
	}
	return api.OK
}

// head are the bytes ahead of the entries, with whatever number of them; Go's own package has the numbers.
func head(s api.Summary, n int) []byte {
	b := binary.BigEndian.AppendUint64(nil, uint64(s.Stamp))
	b = append(b, s.Prev[:]...)
	b = binary.BigEndian.AppendUint64(b, uint64(s.Next))
	return binary.BigEndian.AppendUint64(b, uint64(n))
}

// body are the bytes of entries.
func body(l []api.Entry) []byte {
	var b []byte
	for _, x := range l {
		for _, v := range []int{x.Kind, x.Block, x.Slot} {
			b = binary.BigEndian.AppendUint64(b, uint64(v))
		}
		b = append(b, x.Sum[:]...)
	}
	return b
}

// plainBytes are a summary's bytes, whether it may be or not.
func plainBytes(s api.Summary) []byte { return append(head(s, len(s.Entries)), body(s.Entries)...) }

// plainGet is what the chapter's words say of Get.
func plainGet(b []byte) (api.Summary, api.Errno) {
	if len(b) < 56 {
		return api.Summary{}, api.ErrForm
	}
	number := func(at int) int { return int(binary.BigEndian.Uint64(b[at:])) }
	n, left := number(48), len(b)-56
	switch {
	case n < 0 || n > left/8 || 56*n > left:
		return api.Summary{}, api.ErrForm
	case 56*n < left:
		return api.Summary{}, api.ErrLong
	}
	s := api.Summary{Stamp: number(0), Prev: api.Sum(b[8:40]), Next: number(40)}
	for at := 56; at < len(b); at += 56 {
		s.Entries = append(s.Entries, api.Entry{Kind: number(at), Block: number(at + 8), Slot: number(at + 16), Sum: api.Sum(b[at+24 : at+56])})
	}
	if e := plainCheck(s); e != api.OK {
		return api.Summary{}, e
	}
	return s, api.OK
}

// alike tells whether two summaries are one, whether a list is nil or empty.
func alike(a, b api.Summary) bool {
	return a.Stamp == b.Stamp && a.Prev == b.Prev && a.Next == b.Next && slices.Equal(a.Entries, b.Entries)
}

// may tells of a summary that is refused, or is not put and got as the chapter words it; the answer are its bytes.
func may(t *testing.T, s api.Summary) []byte {
	t.Helper()
	want := plainBytes(s)
	if e := batch.Check(s); e != api.OK {
		t.Errorf("Check %v: %d", s, e)
	}
	b, e := batch.Put(s)
	if e != api.OK || !bytes.Equal(b, want) {
		t.Fatalf("Put %v: %x, %d, not %x", s, b, e, want)
	}
	if len(b) > api.MaxPlain {
		t.Errorf("Put %v: %d bytes", s, len(b))
	}
	gets(t, b, s)
	return b
}

// gets tells of bytes that are not this summary, or are not made again of it.
func gets(t *testing.T, b []byte, want api.Summary) {
	t.Helper()
	s, e := batch.Get(b)
	if e != api.OK || !alike(s, want) {
		t.Errorf("Get %x: %v, %d, not %v", b, s, e, want)
	}
	if again, e := batch.Put(s); e != api.OK || !bytes.Equal(again, b) {
		t.Errorf("Put of Get: %x, %d, not %x", again, e, b)
	}
}

// mayNot tells of a summary that is not refused by each call with this error alone.
func mayNot(t *testing.T, s api.Summary, want api.Errno) {
	t.Helper()
	if e := batch.Check(s); e != want {
		t.Errorf("Check %v: %d, not %d", s, e, want)
	}
	if b, e := batch.Put(s); e != want || len(b) != 0 {
		t.Errorf("Put %v: %x, %d, not %d", s, b, e, want)
	}
	getsNone(t, plainBytes(s), want)
}

// getsNone tells of a call of Get that does not answer an error alone.
func getsNone(t *testing.T, b []byte, want api.Errno) {
	t.Helper()
	if s, e := batch.Get(b); e != want || !alike(s, api.Summary{}) {
		t.Errorf("Get %x: %v, %d, not %d", b, s, e, want)
	}
}

// stands tells of bytes, whatever they are, of which Get does not tell what the chapter's words say.
func stands(t *testing.T, b []byte) {
	t.Helper()
	if s, e := plainGet(b); e == api.OK {
		gets(t, b, s)
	} else {
		getsNone(t, b, e)
	}
}

// is tells of a summary that is not taken, or not refused, as this error says.
func is(t *testing.T, s api.Summary, want api.Errno) {
	t.Helper()
	if want == api.OK {
		may(t, s)
	} else {
		mayNot(t, s, want)
	}
}

// The chapter's examples.
func TestExamples(t *testing.T) {
	first := may(t, api.Summary{Stamp: 3, Next: -1})
	want := slices.Concat([]byte{0, 0, 0, 0, 0, 0, 0, 3}, make([]byte, 32), bytes.Repeat([]byte{255}, 8), make([]byte, 8))
	if !bytes.Equal(first, want) || len(first) != 56 {
		t.Errorf("%x, not %x", first, want)
	}
	if b := may(t, api.Summary{Stamp: 3, Next: -1, Entries: []api.Entry{data(5, 7), trim(5), node(0, 8)}}); len(b) != 224 {
		t.Errorf("%d bytes", len(b))
	}
	for _, x := range []struct {
		entries []api.Entry
		want    api.Errno
	}{
		{[]api.Entry{data(5, 7), node(0, 9)}, api.ErrOrder},
		{[]api.Entry{{Kind: api.ETrim, Block: 5, Slot: 1}}, api.ErrRange},
		{[]api.Entry{node(9, 0)}, api.ErrRange},
		{[]api.Entry{{Kind: 4}}, api.ErrKind},
	} {
		mayNot(t, api.Summary{Stamp: 3, Next: -1, Entries: x.entries}, x.want)
	}
	getsNone(t, nil, api.ErrForm)
	getsNone(t, append(first, 0), api.ErrLong)
}

// P12.2, P12.3: a summary with one entry of each kind, written out.
func TestWritten(t *testing.T) {
	want := strings.Join([]string{
		"0000000102030405",
		"0708090a0b0c0d0e0f101112131415161718191a1b1c1d1e1f20212223242526",
		"0000000000000009",
		"0000000000000003",
		"0000000000000001", "0000000000000021", "0000000000000014", "15161718191a1b1c1d1e1f202122232425262728292a2b2c2d2e2f3031323334",
		"0000000000000002", "0000000000000022", "0000000000000000", "0000000000000000000000000000000000000000000000000000000000000000",
		"0000000000000003", "0000000000000006", "0000000000000015", "7a7b7c7d7e7f808182838485868788898a8b8c8d8e8f90919293949596979899",
	}, "")
	if b := hex.EncodeToString(may(t, sparse())); b != want {
		t.Errorf("%s, not %s", b, want)
	}
}

// P12.1, P12.2, P12.3, P12.4: ordinary summaries, there and back: none, one and up to MaxEntries entries of each kind, and mixed.
func TestOrdinary(t *testing.T) {
	for _, s := range ordinary() {
		if b := may(t, s); len(b) != 56*(1+len(s.Entries)) {
			t.Errorf("%d bytes of %d entries", len(b), len(s.Entries))
		}
	}
}

// P12.1: one entry more than MaxEntries, and many more; whatever else is wrong.
func TestMany(t *testing.T) {
	for _, n := range []int{17, 18, 32, 63, 64, 65, 256, 272, 1000} {
		for _, kind := range []int{api.EData, api.ETrim, api.ENode} {
			s := of(row(kind, n)...)
			mayNot(t, s, api.ErrMany)
			s.Stamp, s.Next = -1, 32
			mayNot(t, s, api.ErrMany)
		}
		mayNot(t, of(mixed(n, 0)...), api.ErrMany)
		mayNot(t, of(make([]api.Entry, n)...), api.ErrMany)
	}
	may(t, of(row(api.ETrim, 16)...))
	mayNot(t, of(make([]api.Entry, 16)...), api.ErrKind)
}

// P12.1: Stamp at its ends, one beyond them, and far out; with no entries, and with as many as may be.
func TestStamp(t *testing.T) {
	for _, l := range [][]api.Entry{nil, {data(1, 2)}, mixed(16, 0)} {
		for _, v := range []int{0, 1, 2, 255, 256, 1 << 32, 1<<40 - 1, 1 << 40} {
			may(t, api.Summary{Stamp: v, Next: -1, Entries: l})
		}
		for _, v := range append([]int{-1}, far...) {
			mayNot(t, api.Summary{Stamp: v, Next: -1, Entries: l}, api.ErrRange)
		}
	}
}

// P12.1: Next at its ends, one beyond them, and far out.
func TestNext(t *testing.T) {
	for _, l := range [][]api.Entry{nil, {data(1, 2)}, mixed(16, 0)} {
		for v := -1; v < 32; v++ {
			may(t, api.Summary{Next: v, Entries: l})
		}
		for _, v := range append([]int{32, 33, 64, 255, 256, 287, 1 << 32}, far...) {
			mayNot(t, api.Summary{Next: v, Entries: l}, api.ErrRange)
		}
	}
}

// P12.1: Kinds that are none, alone, and behind and ahead of entries that may be.
func TestKind(t *testing.T) {
	for _, kind := range append([]int{0, 4, 5, 6, 255, 256, 257, 258, 259, 1<<32 + 1, -1, 1 << 40}, far...) {
		for _, x := range []api.Entry{{Kind: kind}, {Kind: kind, Block: 5, Slot: 5, Sum: full(1)}, {Kind: kind, Block: 64, Slot: 64}, {Kind: kind, Block: -1, Slot: -1}} {
			mayNot(t, of(x), api.ErrKind)
			mayNot(t, of(data(1, 4), x), api.ErrKind)
			mayNot(t, of(trim(1), x), api.ErrKind)
			mayNot(t, of(x, node(1, 6)), api.ErrKind)
			mayNot(t, of(append(mixed(15, 0), x)...), api.ErrKind)
		}
	}
	for kind := 1; kind <= 3; kind++ {
		may(t, of(api.Entry{Kind: kind}))
	}
}

// P12.1: Blocks at their ends, one beyond them, and far out, of each kind; a node's is an index.
func TestBlock(t *testing.T) {
	for block := -1; block <= 65; block++ {
		blocks, index := api.OK, api.OK
		if block < 0 || block > 63 {
			blocks = api.ErrRange
		}
		if block < 0 || block > 8 {
			index = api.ErrRange
		}
		is(t, of(data(block, 5)), blocks)
		is(t, of(trim(block)), blocks)
		is(t, of(node(block, 5)), index)
		is(t, of(data(1, 4), node(2, 5), data(block, 6)), blocks)
		is(t, of(data(1, 4), trim(block), data(2, 5)), blocks)
		is(t, of(data(1, 4), trim(9), node(block, 5)), index)
	}
	for _, block := range append([]int{64, 72, 127, 128, 256, 264, 1 << 32, 1 << 40}, far...) {
		for _, x := range []api.Entry{data(block, 5), trim(block), node(block, 5)} {
			mayNot(t, of(x), api.ErrRange)
			mayNot(t, of(data(1, 4), x), api.ErrRange)
			mayNot(t, of(x, data(1, 6)), api.ErrRange)
		}
	}
}

// P12.1: Slots at their ends, one beyond them, and far out, of each kind that has one.
func TestSlot(t *testing.T) {
	for slot := -1; slot <= 65; slot++ {
		want := api.OK
		if slot < 0 || slot > 63 {
			want = api.ErrRange
		}
		is(t, of(data(5, slot)), want)
		is(t, of(node(5, slot)), want)
		is(t, of(trim(1), data(5, slot), trim(1)), want)
		is(t, of(trim(1), node(5, slot), trim(1)), want)
	}
	may(t, of(data(5, 62), node(5, 63)))
	mayNot(t, of(data(5, 63), node(5, 64)), api.ErrRange)
	mayNot(t, of(data(5, 62), trim(1), node(5, 63), data(5, 64)), api.ErrRange)
	for _, slot := range append([]int{64, 127, 128, 256, 1 << 32, 1 << 40}, far...) {
		mayNot(t, of(data(5, slot)), api.ErrRange)
		mayNot(t, of(node(5, slot)), api.ErrRange)
		mayNot(t, of(trim(5), data(5, slot)), api.ErrRange)
	}
}

// P12.1: a trim has no slot, and no digest: neither a byte of it.
func TestTrim(t *testing.T) {
	for _, slot := range append([]int{-1, 1, 2, 5, 63, 64, 256, 1 << 32}, far...) {
		mayNot(t, of(api.Entry{Kind: api.ETrim, Block: 5, Slot: slot}), api.ErrRange)
		mayNot(t, of(data(5, 4), api.Entry{Kind: api.ETrim, Block: 5, Slot: slot}), api.ErrRange)
	}
	for i := range 32 {
		for _, v := range []byte{1, 128, 255} {
			x := trim(5)
			x.Sum[i] = v
			mayNot(t, of(x), api.ErrRange)
			mayNot(t, of(data(5, 4), x, data(5, 5)), api.ErrRange)
			for _, kind := range []int{api.EData, api.ENode} {
				x.Kind = kind
				may(t, of(x))
			}
		}
	}
	mayNot(t, of(api.Entry{Kind: api.ETrim, Block: 5, Sum: full(1)}), api.ErrRange)
	for _, kind := range []int{api.EData, api.ENode} {
		may(t, of(api.Entry{Kind: kind, Block: 5, Slot: 1}))
	}
}

// P12.1: two entries with slots, in each slot each, of both kinds; with trims ahead, between and behind, that make no difference.
func TestOrder(t *testing.T) {
	for a := range 64 {
		for b := range 64 {
			want := api.ErrOrder
			if b == a+1 {
				want = api.OK
			}
			is(t, of(data(1, a), data(1, b)), want)
			is(t, of(data(1, a), node(1, b)), want)
			is(t, of(node(1, a), data(2, b)), want)
			is(t, of(node(1, a), node(2, b)), want)
			is(t, of(data(1, a), trim(1), node(2, b)), want)
			is(t, of(trim(1), node(1, a), trim(2), trim(3), data(2, b), trim(4)), want)
		}
	}
}

// P12.1: written out: slots that are in order, the same, one too many, one too few, at each place of a row, with trims between.
func TestOrderSteps(t *testing.T) {
	for _, x := range []struct {
		slots []int // -1: a trim
		want  api.Errno
	}{
		{[]int{0, 1, 2, 3}, api.OK}, {[]int{0, 0}, api.ErrOrder}, {[]int{0, 2}, api.ErrOrder}, {[]int{1, 0}, api.ErrOrder}, {[]int{5, 5}, api.ErrOrder}, {[]int{5, 7}, api.ErrOrder}, {[]int{5, 4}, api.ErrOrder},
		{[]int{5, 6, 6}, api.ErrOrder}, {[]int{5, 6, 8}, api.ErrOrder}, {[]int{5, 6, 5}, api.ErrOrder}, {[]int{5, 6, 7}, api.OK}, {[]int{5, 7, 6}, api.ErrOrder}, {[]int{7, 6, 5}, api.ErrOrder},
		{[]int{5, -1, 6}, api.OK}, {[]int{5, -1, 7}, api.ErrOrder}, {[]int{5, -1, 5}, api.ErrOrder}, {[]int{5, -1, 4}, api.ErrOrder}, {[]int{5, -1, -1, -1, 6}, api.OK}, {[]int{5, -1, -1, -1, 8}, api.ErrOrder}, {[]int{5, -1, 1}, api.ErrOrder},
		{[]int{-1, 6, 7}, api.OK}, {[]int{-1, 1}, api.OK}, {[]int{-1, 9}, api.OK}, {[]int{-1, -1, -1, 63}, api.OK}, {[]int{0, -1, 0}, api.ErrOrder}, {[]int{0, -1, 1}, api.OK}, {[]int{0, -1, 2}, api.ErrOrder},
		{[]int{3, -1, 4, -1, 5, -1, 6}, api.OK}, {[]int{3, -1, 4, -1, 4, -1, 5}, api.ErrOrder}, {[]int{3, -1, 4, -1, 6, -1, 7}, api.ErrOrder}, {[]int{3, 4, -1, 6, -1}, api.ErrOrder}, {[]int{62, 63}, api.OK}, {[]int{63, 0}, api.ErrOrder}, {[]int{63, -1, 0}, api.ErrOrder},
	} {
		for turn := range 2 {
			var l []api.Entry
			for i, slot := range x.slots {
				switch {
				case slot < 0:
					l = append(l, trim(i))
				case (i+turn)%2 == 0:
					l = append(l, data(i, slot))
				default:
					l = append(l, node(i, slot))
				}
			}
			is(t, of(l...), x.want)
		}
	}
}

// P12.1: a row of MaxEntries with one step that is not in order, at each place.
func TestOrderPlaces(t *testing.T) {
	for at := 1; at < 16; at++ {
		for _, by := range []int{-2, -1, 1, 2, 40} {
			for _, l := range [][]api.Entry{row(api.EData, 16), mixed(16, 10)} {
				if l[at].Kind == api.ETrim {
					continue
				}
				for i := at; i < 16; i++ {
					if l[i].Kind != api.ETrim {
						l[i].Slot += by
					}
				}
				want := plainCheck(of(l...))
				if want != api.ErrOrder && by != 40 && by != -2 {
					t.Errorf("a step of %d at %d: %d", by, at, want)
				}
				is(t, of(l...), want)
			}
		}
	}
}

// P12.1: written out: which error is the first one, within one entry and between entries.
func TestFirst(t *testing.T) {
	many := row(api.EData, 17)
	kindless := api.Entry{Kind: 4, Block: 64, Slot: 64, Sum: full(1)}
	for _, x := range []struct {
		s    api.Summary
		want api.Errno
	}{
		{api.Summary{Stamp: -1, Next: 32, Entries: many}, api.ErrMany},
		{api.Summary{Stamp: -1, Entries: append(many, kindless)}, api.ErrMany},
		{api.Summary{Stamp: 1<<40 + 1, Next: -1, Entries: []api.Entry{kindless}}, api.ErrRange},
		{api.Summary{Next: 32, Entries: []api.Entry{kindless}}, api.ErrRange},
		{api.Summary{Next: -2, Entries: []api.Entry{data(1, 1), data(1, 1)}}, api.ErrRange},
		{api.Summary{Stamp: -1, Next: -2}, api.ErrRange},
		{of(kindless), api.ErrKind},
		{of(api.Entry{Kind: -1, Slot: -1}), api.ErrKind},
		{of(data(64, 1), kindless), api.ErrRange},
		{of(kindless, data(64, 1)), api.ErrKind},
		{of(data(1, 1), data(1, 1), kindless), api.ErrOrder},
		{of(data(1, 1), kindless, data(1, 1)), api.ErrKind},
		{of(data(1, 1), data(1, 3), data(64, 4)), api.ErrOrder},
		{of(data(1, 1), data(64, 3), data(1, 3)), api.ErrRange},
		{of(data(1, 1), data(1, 64)), api.ErrRange},
		{of(data(1, 1), data(-1, 1)), api.ErrRange},
		{of(data(1, 1), node(9, 1)), api.ErrRange},
		{of(data(1, 1), node(8, 1)), api.ErrOrder},
		{of(data(1, 1), api.Entry{Kind: 0, Slot: 1}), api.ErrKind},
		{of(data(1, 1), api.Entry{Kind: api.ETrim, Slot: 1}), api.ErrRange},
		{of(data(1, 1), api.Entry{Kind: api.ETrim, Slot: 2}, kindless), api.ErrRange},
		{of(data(1, 1), api.Entry{Kind: api.ETrim, Sum: api.Sum{1}}, data(1, 1)), api.ErrRange},
		{of(data(1, 1), data(1, 1), api.Entry{Kind: api.ETrim, Slot: 2}), api.ErrOrder},
		{of(trim(64), kindless), api.ErrRange},
		{of(trim(1), kindless, trim(64)), api.ErrKind},
	} {
		mayNot(t, x.s, x.want)
	}
}

// sorts are entries that may be, and such in which one thing is wrong, or several are.
func sorts() []api.Entry {
	return []api.Entry{
		data(0, 4), data(63, 5), data(64, 5), data(5, 64), data(-1, -1), node(8, 5), node(9, 6), node(0, 6),
		trim(0), trim(64), {Kind: api.ETrim, Slot: 5}, {Kind: api.ETrim, Sum: api.Sum{31: 1}}, {}, {Kind: 4, Block: 5, Slot: 5}, {Kind: 4, Block: 64}, {Kind: -1, Slot: -1},
	}
}

// P12.1: three entries of each sort with each, beside a Stamp and a Next that may be or not.
func TestEachWithEach(t *testing.T) {
	for _, a := range sorts() {
		for _, b := range sorts() {
			for _, c := range sorts() {
				for _, s := range []api.Summary{of(a, b, c), {Stamp: -1, Entries: []api.Entry{a, b, c}}, {Next: 32, Entries: []api.Entry{a, b, c}}} {
					is(t, s, plainCheck(s))
				}
			}
		}
	}
}

// P12.3, P12.5: each beginning of a summary's bytes, with the others lying behind or not: the bytes end too early. An end of them may be another summary's.
func TestCut(t *testing.T) {
	for _, s := range ordinary() {
		b := may(t, s)
		for n := range b {
			getsNone(t, b[:n], api.ErrForm)
			getsNone(t, bytes.Clone(b[:n]), api.ErrForm)
		}
		for n := 1; n < len(b); n++ {
			stands(t, b[n:])
		}
	}
}

// P12.3, P12.5: bytes behind a summary's: one, an entry's, another summary's; also where Check would refuse it.
func TestBehind(t *testing.T) {
	for _, s := range ordinary() {
		for _, more := range [][]byte{{0}, {1}, {255}, make([]byte, 7), make([]byte, 8), make([]byte, 55), make([]byte, 56), body([]api.Entry{trim(5)}), body([]api.Entry{data(5, 8)}), plainBytes(s), make([]byte, 5000)} {
			getsNone(t, slices.Concat(plainBytes(s), more), api.ErrLong)
			wrong := s
			wrong.Stamp = -1
			getsNone(t, slices.Concat(plainBytes(wrong), more), api.ErrLong)
			wrong.Entries = append(slices.Clone(s.Entries), api.Entry{})
			getsNone(t, slices.Concat(plainBytes(wrong), more), api.ErrLong)
		}
	}
}

// P12.3: what Check would refuse is ErrForm, where the bytes end too early.
func TestFormFirst(t *testing.T) {
	for _, s := range []api.Summary{{Stamp: -1}, {Next: 32}, of(api.Entry{}), of(data(1, 1), data(1, 1)), of(data(64, 1)), of(make([]api.Entry, 17)...)} {
		b := plainBytes(s)
		for n := range b {
			getsNone(t, b[:n], api.ErrForm)
		}
		getsNone(t, b, plainCheck(s))
	}
}

// P12.3: numbers of entries that are not there: below 0, and about an eighth of the bytes that are left, and about as many as these are.
func TestCount(t *testing.T) {
	for _, left := range []int{0, 1, 7, 8, 9, 15, 16, 55, 56, 57, 63, 64, 111, 112, 113, 16 * 56, 16*56 + 1, 17 * 56, 17*56 + 1, 5600, 1 << 16} {
		more := body(row(api.ETrim, left/56+1))[:left]
		for _, n := range append([]int{0, 1, 2, 16, 17, 18, 255, 256, 1 << 32, 1<<61 + 1, 1 << 61, -1, -8, -56, left/56 - 1, left / 56, left/56 + 1, left/8 - 1, left / 8, left/8 + 1, left, left + 1, 1 << 40}, far...) {
			b := append(head(of(), n), more...)
			stands(t, b)
		}
	}
}

// P12.3: written out: numbers of entries, beside so many bytes.
func TestCountWritten(t *testing.T) {
	for _, x := range []struct {
		n, left int
		want    api.Errno
	}{
		{0, 0, api.OK}, {0, 1, api.ErrLong}, {0, 7, api.ErrLong}, {0, 56, api.ErrLong}, {-1, 0, api.ErrForm}, {-1, 56, api.ErrForm}, {math.MinInt, 56, api.ErrForm}, {math.MaxInt, 56, api.ErrForm},
		{1, 0, api.ErrForm}, {1, 7, api.ErrForm}, {1, 8, api.ErrForm}, {1, 55, api.ErrForm}, {1, 56, api.OK}, {1, 57, api.ErrLong}, {1, 112, api.ErrLong}, {7, 56, api.ErrForm}, {8, 56, api.ErrForm},
		{2, 56, api.ErrForm}, {2, 111, api.ErrForm}, {2, 112, api.OK}, {14, 112, api.ErrForm}, {15, 112, api.ErrForm}, {16, 16 * 56, api.OK}, {17, 17 * 56, api.ErrMany}, {17, 17*56 + 1, api.ErrLong}, {17, 17*56 - 1, api.ErrForm}, {119, 17 * 56, api.ErrForm}, {120, 17 * 56, api.ErrForm}, {10000, 560000, api.ErrMany},
	} {
		b := append(head(of(), x.n), body(row(api.ETrim, x.left/56+1))[:x.left]...)
		if x.want != api.OK {
			getsNone(t, b, x.want)
		} else {
			gets(t, b, of(row(api.ETrim, x.n)...))
		}
	}
}

// P12.3: a number of entries that is claimed alone makes no list of that size.
func TestClaimed(t *testing.T) {
	b := append(head(of(), 1<<17), make([]byte, 1<<20)...)
	var was, now runtime.MemStats
	runtime.ReadMemStats(&was)
	_, e := batch.Get(b)
	runtime.ReadMemStats(&now)
	if made := now.TotalAlloc - was.TotalAlloc; e != api.ErrForm || made > 4<<20 {
		t.Errorf("%d, %d bytes made", e, made)
	}
}

// turned tells of a summary's bytes, with each byte turned by each of these, that are the same summary, or not told as the chapter words it.
func turned(t *testing.T, s api.Summary, by []byte) {
	t.Helper()
	b := may(t, s)
	for i := range b {
		for _, v := range by {
			b[i] ^= v
			if got, e := plainGet(b); e == api.OK && alike(got, s) {
				t.Errorf("byte %d by %d: the same summary", i, v)
			}
			stands(t, b)
			b[i] ^= v
		}
	}
	gets(t, b, s)
}

// P12.4, P12.5: each byte of a summary's bytes turned, to each other one where they are few: another summary, or none.
func TestTurned(t *testing.T) {
	var all []byte
	for v := 1; v < 256; v++ {
		all = append(all, byte(v))
	}
	for _, s := range []api.Summary{sparse(), {Stamp: 3, Next: -1}, of(trim(0)), of(data(0, 0), data(1, 1))} {
		turned(t, s, all)
	}
	for _, s := range ordinary() {
		turned(t, s, []byte{1, 128})
	}
	turned(t, of(mixed(16, 0)...), []byte{1, 2, 4, 8, 16, 32, 64, 128, 255})
}

// P12.1, P12.3: which errors the bytes of a summary have when they are turned, written out.
func TestTurnedWritten(t *testing.T) {
	for _, x := range []struct {
		at   int
		v    byte
		want api.Errno
	}{
		{0, 128, api.ErrRange}, {0, 1, api.ErrRange}, {2, 2, api.ErrRange}, {3, 0, api.OK}, {40, 255, api.ErrRange}, {47, 32, api.ErrRange}, {47, 31, api.OK}, {8, 0, api.OK}, {39, 0, api.OK},
		{48, 128, api.ErrForm}, {48, 1, api.ErrForm}, {55, 2, api.ErrLong}, {55, 4, api.ErrForm}, {55, 0, api.ErrLong},
		{56, 1, api.ErrKind}, {63, 0, api.ErrKind}, {63, 4, api.ErrKind}, {63, 2, api.ErrRange}, {63, 3, api.ErrRange}, {64, 255, api.ErrRange}, {71, 64, api.ErrRange}, {71, 63, api.OK}, {72, 128, api.ErrRange}, {79, 64, api.ErrRange}, {79, 19, api.ErrOrder}, {80, 0, api.OK}, {111, 0, api.OK},
		{119, 1, api.ErrOrder}, {119, 3, api.ErrRange}, {127, 63, api.OK}, {127, 64, api.ErrRange}, {135, 1, api.ErrRange}, {136, 1, api.ErrRange}, {167, 1, api.ErrRange},
		{175, 1, api.OK}, {175, 2, api.ErrRange}, {183, 8, api.OK}, {183, 9, api.ErrRange}, {191, 20, api.ErrOrder}, {191, 22, api.ErrOrder}, {191, 64, api.ErrRange}, {192, 0, api.OK}, {223, 0, api.OK},
	} {
		b := plainBytes(sparse())
		b[x.at] = x.v
		if x.want != api.OK {
			getsNone(t, b, x.want)
		} else if s, e := batch.Get(b); e != api.OK || !bytes.Equal(plainBytes(s), b) {
			t.Errorf("byte %d as %d: %v, %d", x.at, x.v, s, e)
		}
	}
}

// chance is a summary by chance, which most often may be, but for one thing.
func chance(r *rand.Rand) api.Summary {
	s := of(mixed(r.Intn(17), r.Intn(50))...)
	s.Stamp, s.Next = r.Intn(1<<40+1), r.Intn(33)-1
	r.Read(s.Prev[:])
	if len(s.Entries) == 0 || r.Intn(2) == 0 {
		return s
	}
	x := &s.Entries[r.Intn(len(s.Entries))]
	switch r.Intn(4) {
	case 0:
		x.Kind = r.Intn(6) - 1
	case 1:
		x.Block = r.Intn(80) - 5
	case 2:
		x.Slot += r.Intn(5) - 2
	default:
		x.Sum[r.Intn(32)] ^= byte(r.Intn(256))
	}
	return s
}

// P12.1 to P12.5: summaries by chance against the chapter's words made another way; unlike ones have unlike bytes.
func TestChance(t *testing.T) {
	r := rand.New(rand.NewSource(12))
	seen := map[string]api.Summary{}
	taken := 0
	for range 20000 {
		s := chance(r)
		want := plainCheck(s)
		is(t, s, want)
		if want != api.OK {
			continue
		}
		taken++
		b, _ := batch.Put(s)
		if was, ok := seen[string(b)]; ok && !alike(was, s) {
			t.Errorf("%v and %v: the same bytes", was, s)
		}
		seen[string(b)] = s
	}
	if taken < 5000 || taken > 19000 {
		t.Errorf("%d taken", taken)
	}
}

// P12.5: summaries that are unlike in one thing alone have unlike bytes.
func TestUnlike(t *testing.T) {
	turns := []func(s *api.Summary){
		func(s *api.Summary) {}, func(s *api.Summary) { s.Stamp++ }, func(s *api.Summary) { s.Prev[0]++ }, func(s *api.Summary) { s.Prev[31]++ }, func(s *api.Summary) { s.Next++ }, func(s *api.Summary) { s.Next = -1 },
		func(s *api.Summary) { s.Entries = nil }, func(s *api.Summary) { s.Entries = s.Entries[1:] }, func(s *api.Summary) { s.Entries = s.Entries[:2] }, func(s *api.Summary) { s.Entries = append(s.Entries, trim(0)) },
		func(s *api.Summary) { s.Entries[0].Kind, s.Entries[0].Block = api.ENode, 3 }, func(s *api.Summary) { s.Entries[0].Block = 3 }, func(s *api.Summary) { s.Entries[0].Sum[0]++ }, func(s *api.Summary) { s.Entries[0].Sum[31]++ },
		func(s *api.Summary) { s.Entries[1].Block++ }, func(s *api.Summary) { s.Entries[2].Kind = api.EData }, func(s *api.Summary) { s.Entries[0].Slot++; s.Entries[2].Slot++ },
		func(s *api.Summary) { s.Entries[0], s.Entries[1] = s.Entries[1], s.Entries[0] },
	}
	seen := map[string]int{}
	for i, turn := range turns {
		s := sparse()
		turn(&s)
		b := string(may(t, s))
		if other, ok := seen[b]; ok {
			t.Errorf("turns %d and %d: the same bytes", other, i)
		}
		seen[b] = i
	}
}

// P12.2, P12.3: a list of entries may be nil or empty: they are one; so may bytes.
func TestNone(t *testing.T) {
	want := may(t, of())
	for _, none := range [][]api.Entry{nil, {}, make([]api.Entry, 0, 5), mixed(5, 0)[:0], mixed(5, 0)[5:]} {
		if b := may(t, of(none...)); !bytes.Equal(b, want) {
			t.Errorf("%x, not %x", b, want)
		}
	}
	for _, none := range [][]byte{nil, {}, make([]byte, 0, 100), want[:0], want[56:]} {
		getsNone(t, none, api.ErrForm)
	}
}

// R3: a summary that is handed in stays as it was, what lies behind its entries too, whether it is taken or refused; what Put tells is new memory.
func TestPutApart(t *testing.T) {
	for n := range 18 {
		whole := mixed(20, 5)
		was := slices.Clone(whole)
		s := of(whole[:n]...)
		s.Entries = whole[:n]
		want, no := plainBytes(s), plainCheck(s)
		if e := batch.Check(s); e != no {
			t.Errorf("Check: %d, not %d", e, no)
		}
		a, e := batch.Put(s)
		b, _ := batch.Put(s)
		if e != no || !slices.Equal(whole, was) {
			t.Errorf("%d entries: %d, not %d; %v, not %v", n, e, no, whole, was)
		}
		if no != api.OK {
			continue
		}
		for i := range a {
			a[i] ^= 255
		}
		_ = append(a, make([]byte, 100)...)
		clear(whole)
		if !bytes.Equal(b, want) {
			t.Errorf("%d entries: %x, not %x", n, b, want)
		}
	}
}

// R3: bytes that are handed in stay as they were, what lies behind them too; what Get tells is new memory.
func TestGetApart(t *testing.T) {
	for _, s := range ordinary() {
		whole := append(plainBytes(s), bytes.Repeat([]byte{7}, 100)...)
		was, b := bytes.Clone(whole), whole[:len(whole)-100]
		one, e := batch.Get(b)
		two, _ := batch.Get(b)
		batch.Get(whole)
		batch.Get(b[:len(b)-1])
		if e != api.OK || !bytes.Equal(whole, was) {
			t.Errorf("%d: %x, not %x", e, whole, was)
		}
		for i := range one.Entries {
			one.Entries[i] = data(1, 2)
		}
		_ = append(one.Entries, data(3, 4))
		if !bytes.Equal(whole, was) || !alike(two, s) {
			t.Errorf("behind the answer's change: %x, not %x; %v, not %v", whole, was, two, s)
		}
		clear(whole)
		if !alike(two, s) {
			t.Errorf("behind a change of what was handed in: %v, not %v", two, s)
		}
	}
}

// R4: what was asked ahead makes no difference, a summary and bytes that are refused among it.
func TestAgain(t *testing.T) {
	for range 3 {
		mayNot(t, of(data(1, 1), data(1, 1)), api.ErrOrder)
		getsNone(t, make([]byte, 55), api.ErrForm)
		may(t, sparse())
		mayNot(t, of(row(api.EData, 17)...), api.ErrMany)
		may(t, of(data(1, 63)))
		may(t, of(data(1, 0)))
	}
}
