package page_test

import (
	"bytes"
	"encoding/binary"
	"encoding/hex"
	"math"
	"math/rand"
	"slices"
	"strings"
	"testing"

	"rill/api"
	"rill/page"
)

// size is how many bytes a node has.
const size = 328

// far are numbers that are out of every place; some of them are in one when they are cut.
var far = []int{
	-2, -3, -8, -4095, -4096, -256, -255, 1<<8 - 4096, -1 << 16, -1<<16 + 3, -1 << 32, -1<<32 + 3, -1 << 40, -1<<56 + 3, math.MinInt, math.MinInt + 1, math.MinInt + 3, math.MinInt + 8,
	4097, 4098, 4099, 8191, 1 << 13, 1<<16 + 3, 1 << 31, 1<<32 + 1, 1<<32 + 3, 1<<32 + 8, 1 << 40, 1<<40 + 1, 1<<48 + 5, 1<<56 + 3, 1 << 62, math.MaxInt - 1, math.MaxInt,
}

// full is a digest in which no byte is 0, and no two are one.
func full(first byte) api.Sum {
	var s api.Sum
	for i := range s {
		s[i] = first + byte(i)
	}
	return s
}

// one is a node with one ref alone.
func one(at int, r api.Ref) api.Page {
	var p api.Page
	p.Refs[at] = r
	return p
}

// whole is a node with all eight refs, each with a place and a digest of its own.
func whole() api.Page {
	var p api.Page
	for i := range p.Refs {
		p.Refs[i] = api.Ref{At: 0x101 + 0x111*i, Sum: full(byte(1 + 28*i))}
	}
	return p
}

// with is that node with another ref at one place.
func with(at int, r api.Ref) api.Page {
	p := whole()
	p.Refs[at] = r
	return p
}

// ordinary are nodes that may be: with no ref, with one alone at each place, with one missing at each, with all eight.
func ordinary() []api.Page {
	l := []api.Page{{}, whole()}
	for i := range 8 {
		l = append(l, one(i, api.Ref{At: 77 + i, Sum: full(9)}), one(i, api.Ref{At: 3}), one(i, api.Ref{At: 4095, Sum: api.Sum{31: 2}}))
		l = append(l, with(i, api.Ref{}), with(i, api.Ref{At: 4095}), with(i, whole().Refs[7-i]))
	}
	var least, most, same api.Page
	for i := range 8 {
		least.Refs[i].At, most.Refs[i], same.Refs[i] = 3, api.Ref{At: 4095, Sum: api.Sum(bytes.Repeat([]byte{255}, 32))}, api.Ref{At: 256, Sum: full(4)}
	}
	return append(l, least, most, same)
}

// plainCheck is what the chapter's words say of an index and a node.
func plainCheck(index int, p api.Page) api.Errno {
	wrong := 0
	for _, r := range p.Refs {
		silent := r.At == 0 && strings.Trim(string(r.Sum[:]), "\x00") == ""
		if !silent && (r.At <= 2 || r.At > 4095) {
			wrong++
		}
	}
	if wrong > 0 || index < 0 || index > 8 {
		return api.ErrRange
	}
	return api.OK
}

// plainBytes are a node's bytes, whether it may be or not; Go's own package has the numbers.
func plainBytes(index int, p api.Page) []byte {
	b := binary.BigEndian.AppendUint64(nil, uint64(index))
	for _, r := range p.Refs {
		b = binary.BigEndian.AppendUint64(b, uint64(r.At))
		b = append(b, r.Sum[:]...)
	}
	return b
}

// plainGet is what the chapter's words say of Get.
func plainGet(b []byte) (int, api.Page, api.Errno) {
	switch {
	case len(b) < size:
		return 0, api.Page{}, api.ErrForm
	case len(b) > size:
		return 0, api.Page{}, api.ErrLong
	}
	index := int(binary.BigEndian.Uint64(b))
	var p api.Page
	for i := range 8 {
		own := b[8+40*i:]
		p.Refs[i] = api.Ref{At: int(binary.BigEndian.Uint64(own)), Sum: api.Sum(own[8:40])}
	}
	if e := plainCheck(index, p); e != api.OK {
		return 0, api.Page{}, e
	}
	return index, p, api.OK
}

// may tells of a node that is refused, or is not put and got as the chapter words it; the answer are its bytes.
func may(t *testing.T, index int, p api.Page) []byte {
	t.Helper()
	want := plainBytes(index, p)
	b, e := page.Put(index, p)
	if e != api.OK || !bytes.Equal(b, want) || len(b) != size {
		t.Fatalf("Put %d, %v: %x, %d, not %x", index, p, b, e, want)
	}
	gets(t, b, index, p)
	return b
}

// gets tells of bytes that are not this node, or are not made again of it.
func gets(t *testing.T, b []byte, index int, p api.Page) {
	t.Helper()
	i, q, e := page.Get(b)
	if i != index || q != p || e != api.OK {
		t.Errorf("Get %x: %d, %v, %d, not %d, %v", b, i, q, e, index, p)
	}
	if again, e := page.Put(i, q); e != api.OK || !bytes.Equal(again, b) {
		t.Errorf("Put of Get: %x, %d, not %x", again, e, b)
	}
}

// mayNot tells of a node that is not refused with ErrRange alone, put or got.
func mayNot(t *testing.T, index int, p api.Page) {
	t.Helper()
	if b, e := page.Put(index, p); e != api.ErrRange || len(b) != 0 {
		t.Errorf("Put %d, %v: %x, %d", index, p, b, e)
	}
	getsNone(t, plainBytes(index, p), api.ErrRange)
}

// is tells of a node that is not taken, or not refused, as this error says.
func is(t *testing.T, index int, p api.Page, want api.Errno) {
	t.Helper()
	if want == api.OK {
		may(t, index, p)
	} else {
		mayNot(t, index, p)
	}
}

// getsNone tells of a call of Get that does not answer an error alone.
func getsNone(t *testing.T, b []byte, want api.Errno) {
	t.Helper()
	if i, p, e := page.Get(b); e != want || i != 0 || p != (api.Page{}) {
		t.Errorf("Get %x: %d, %v, %d, not %d", b, i, p, e, want)
	}
}

// stands tells of bytes, whatever they are, of which Get does not tell what the chapter's words say.
func stands(t *testing.T, b []byte) {
	t.Helper()
	if index, p, e := plainGet(b); e == api.OK {
		gets(t, b, index, p)
	} else {
		getsNone(t, b, e)
	}
}

// leaf tells of a block whose leaf, or place in it, is another one.
func leaf(t *testing.T, block, index, place int) {
	t.Helper()
	if i, k := page.Leaf(block); i != index || k != place {
		t.Errorf("Leaf %d: %d, %d, not %d, %d", block, i, k, index, place)
	}
}

// The chapter's examples.
func TestExamples(t *testing.T) {
	if b, e := page.Put(1, api.Page{}); e != api.OK || len(b) != 328 {
		t.Errorf("%d bytes, %d", len(b), e)
	}
	mayNot(t, 9, api.Page{})
	mayNot(t, 0, one(0, api.Ref{At: 2}))
	mayNot(t, 0, one(0, api.Ref{Sum: api.Sum{1}}))
	mayNot(t, 0, one(0, api.Ref{Sum: api.Sum{31: 1}}))
	leaf(t, 0, 1, 0)
	leaf(t, 63, 8, 7)
	leaf(t, 64, 0, 0)
}

// P13.1: a node written out: the index, and each ref, in order.
func TestWritten(t *testing.T) {
	zero := strings.Repeat("00", 40)
	p := api.Page{Refs: [8]api.Ref{0: {At: 3, Sum: full(1)}, 2: {At: 0x0102, Sum: api.Sum{0: 0xaa, 31: 0xbb}}, 5: {At: 4095}, 7: {At: 4, Sum: full(0x81)}}}
	want := strings.Join([]string{
		"0000000000000006",
		"0000000000000003", "0102030405060708090a0b0c0d0e0f101112131415161718191a1b1c1d1e1f20",
		zero,
		"0000000000000102", "aa000000000000000000000000000000000000000000000000000000000000bb",
		zero,
		zero,
		"0000000000000fff", "0000000000000000000000000000000000000000000000000000000000000000",
		zero,
		"0000000000000004", "8182838485868788898a8b8c8d8e8f909192939495969798999a9b9c9d9e9fa0",
	}, "")
	if b := hex.EncodeToString(may(t, 6, p)); b != want {
		t.Errorf("%s, not %s", b, want)
	}
	if b := hex.EncodeToString(may(t, 0, api.Page{})); b != strings.Repeat("00", 328) {
		t.Errorf("no ref: %s", b)
	}
}

// P13.1, P13.2, P13.4: ordinary nodes, there and back, as the root and as each leaf.
func TestOrdinary(t *testing.T) {
	for index := range 9 {
		for _, p := range ordinary() {
			may(t, index, p)
		}
	}
}

// P13.1, P13.2: an index at its ends, one beyond them, and far out, of nodes that may be.
func TestIndex(t *testing.T) {
	for _, p := range ordinary() {
		for index := range 9 {
			may(t, index, p)
		}
		for _, index := range append([]int{-1, 9, 10, 11, 15, 16, 63, 64, 128, 255, 256, 257, 264, 4095, 4096}, far...) {
			mayNot(t, index, p)
		}
	}
}

// P13.1, P13.2: a ref's At at its ends, one beyond them, and far out, at each place, alone and beside all others, with a digest and without.
func TestAt(t *testing.T) {
	for i := range 8 {
		for _, sum := range []api.Sum{{}, {1}, {31: 1}, full(3)} {
			for _, at := range []int{3, 4, 5, 127, 128, 255, 256, 257, 512, 2047, 2048, 4093, 4094, 4095} {
				r := api.Ref{At: at, Sum: sum}
				may(t, i, one(i, r))
				may(t, i+1, with(i, r))
			}
			for _, at := range append([]int{-1, 1, 2, 4096}, far...) {
				r := api.Ref{At: at, Sum: sum}
				mayNot(t, i, one(i, r))
				mayNot(t, i+1, with(i, r))
			}
		}
	}
}

// P13.1, P13.2: each At from below 0 to behind MaxSectors, at the first place and the last one.
func TestEachAt(t *testing.T) {
	for at := -300; at < 4400; at++ {
		want := api.ErrRange
		if at == 0 || at >= 3 && at <= 4095 {
			want = api.OK
		}
		is(t, 0, one(0, api.Ref{At: at}), want)
		is(t, 8, one(7, api.Ref{At: at}), want)
		is(t, 4, with(7, api.Ref{At: at}), want)
	}
}

// P13.1, P13.2: a ref that says nothing has no digest, neither a byte of it, nor a bit; one with a place may have any.
func TestSilent(t *testing.T) {
	for i := range 8 {
		may(t, i, one(i, api.Ref{}))
		may(t, i, with(i, api.Ref{}))
		for k := range 32 {
			for _, v := range []byte{1, 2, 16, 128, 255} {
				var sum api.Sum
				sum[k] = v
				mayNot(t, i, one(i, api.Ref{Sum: sum}))
				mayNot(t, i+1, with(i, api.Ref{Sum: sum}))
				may(t, i, one(i, api.Ref{At: 3, Sum: sum}))
				may(t, i+1, with(i, api.Ref{At: 4095, Sum: sum}))
			}
		}
		mayNot(t, i, one(i, api.Ref{Sum: full(1)}))
		mayNot(t, i, with(i, api.Ref{Sum: full(1)}))
	}
}

// P13.1, P13.2: several things that are wrong at once, in the index, in one ref, in two and in all of them.
func TestWrong(t *testing.T) {
	refs := []api.Ref{{}, {At: 9, Sum: full(1)}, {At: 2}, {At: 4096, Sum: full(2)}, {At: -1}, {Sum: api.Sum{31: 1}}, {At: math.MinInt}, {At: math.MaxInt}}
	for _, index := range []int{-1, 0, 8, 9, math.MinInt, math.MaxInt} {
		for i := range 8 {
			for k := range 8 {
				for _, a := range refs {
					for _, b := range refs {
						p := whole()
						p.Refs[i] = a
						p.Refs[k] = b
						is(t, index, p, plainCheck(index, p))
					}
				}
			}
		}
		for _, r := range refs[2:] {
			var p api.Page
			for i := range p.Refs {
				p.Refs[i] = r
			}
			mayNot(t, index, p)
		}
	}
}

// wrong are bytes of which the index or a ref, or both, may not be.
func wrong() [][]byte {
	l := [][]byte{plainBytes(-1, whole()), plainBytes(9, whole()), plainBytes(9, api.Page{}), plainBytes(-1, one(0, api.Ref{At: 1})), bytes.Repeat([]byte{255}, size)}
	for i := range 8 {
		l = append(l, plainBytes(i, with(i, api.Ref{At: 2})), plainBytes(i, one(i, api.Ref{Sum: api.Sum{1}})), plainBytes(9, one(i, api.Ref{At: -1})))
	}
	return l
}

// P13.2: each beginning of a node's bytes, with the others lying behind or not: there are fewer; and each end of them.
func TestFewer(t *testing.T) {
	for _, p := range ordinary() {
		b := may(t, 5, p)
		for n := range size {
			getsNone(t, b[:n], api.ErrForm)
			getsNone(t, bytes.Clone(b[:n]), api.ErrForm)
			if n > 0 {
				getsNone(t, b[n:], api.ErrForm)
			}
		}
	}
	for _, none := range [][]byte{nil, {}, make([]byte, 0, 400)} {
		getsNone(t, none, api.ErrForm)
	}
}

// P13.2: bytes behind a node's: one, a ref's, another node's.
func TestMore(t *testing.T) {
	for _, p := range ordinary() {
		b := may(t, 5, p)
		for _, more := range [][]byte{{0}, {1}, {255}, make([]byte, 7), make([]byte, 8), make([]byte, 39), make([]byte, 40), make([]byte, 41), plainBytes(0, p)[8:48], plainBytes(7, whole())[8:48], b, make([]byte, 5000)} {
			getsNone(t, slices.Concat(b, more), api.ErrLong)
		}
	}
	for n := size + 1; n < 1100; n++ {
		getsNone(t, make([]byte, n), api.ErrLong)
	}
	getsNone(t, make([]byte, 1<<20), api.ErrLong)
}

// P13.2: the bytes' number is asked ahead of what they say.
func TestFirst(t *testing.T) {
	for _, b := range wrong() {
		getsNone(t, b, api.ErrRange)
		for n := range size {
			getsNone(t, b[:n], api.ErrForm)
		}
		for _, more := range [][]byte{{0}, {255}, make([]byte, 40), plainBytes(0, whole())[8:48], b} {
			getsNone(t, slices.Concat(b, more), api.ErrLong)
		}
	}
	getsNone(t, bytes.Repeat([]byte{255}, 327), api.ErrForm)
	getsNone(t, bytes.Repeat([]byte{255}, 328), api.ErrRange)
	getsNone(t, bytes.Repeat([]byte{255}, 329), api.ErrLong)
}

// P13.2, P13.4: each byte of a node's bytes turned, to each other one: another node, or none.
func TestTurned(t *testing.T) {
	for _, p := range []api.Page{{}, whole(), one(0, api.Ref{At: 3, Sum: full(1)}), one(7, api.Ref{At: 4095}), with(4, api.Ref{})} {
		for _, index := range []int{0, 3, 8} {
			b := may(t, index, p)
			for i := range b {
				for v := 1; v < 256; v++ {
					b[i] ^= byte(v)
					if k, q, e := plainGet(b); e == api.OK && k == index && q == p {
						t.Errorf("byte %d by %d: the same node", i, v)
					}
					stands(t, b)
					b[i] ^= byte(v)
				}
			}
			gets(t, b, index, p)
		}
	}
}

// P13.2: what the bytes of a node are when one of them is turned, written out.
func TestTurnedWritten(t *testing.T) {
	p := api.Page{Refs: [8]api.Ref{0: {At: 3, Sum: full(1)}, 1: {At: 0x0456}, 7: {At: 0x0fff, Sum: full(2)}}}
	for _, x := range []struct {
		at   int
		v    byte
		want api.Errno
	}{
		{0, 128, api.ErrRange}, {0, 1, api.ErrRange}, {3, 1, api.ErrRange}, {6, 1, api.ErrRange}, {7, 0, api.OK}, {7, 8, api.OK}, {7, 9, api.ErrRange}, {7, 255, api.ErrRange},
		{8, 128, api.ErrRange}, {8, 1, api.ErrRange}, {11, 1, api.ErrRange}, {14, 15, api.OK}, {14, 16, api.ErrRange}, {15, 2, api.ErrRange}, {15, 1, api.ErrRange}, {15, 0, api.ErrRange}, {15, 4, api.OK}, {16, 0, api.OK}, {47, 0, api.OK},
		{48, 255, api.ErrRange}, {54, 0, api.OK}, {54, 15, api.OK}, {54, 16, api.ErrRange}, {55, 0, api.OK}, {56, 1, api.OK}, {87, 1, api.OK},
		{88, 1, api.ErrRange}, {94, 1, api.OK}, {95, 1, api.ErrRange}, {95, 2, api.ErrRange}, {95, 3, api.OK}, {96, 1, api.ErrRange}, {127, 1, api.ErrRange}, {128, 128, api.ErrRange}, {287, 1, api.ErrRange},
		{288, 1, api.ErrRange}, {294, 16, api.ErrRange}, {294, 0, api.OK}, {295, 0, api.OK}, {296, 0, api.OK}, {327, 0, api.OK},
	} {
		b := plainBytes(7, p)
		b[x.at] = x.v
		if x.want != api.OK {
			getsNone(t, b, x.want)
		} else if i, q, e := page.Get(b); e != api.OK || !bytes.Equal(plainBytes(i, q), b) {
			t.Errorf("byte %d as %d: %d, %v, %d", x.at, x.v, i, q, e)
		}
	}
}

// P13.3: Empty of a node in which one ref alone is not zero, in its At alone, or in one byte of its Sum; whether it may be or not.
func TestEmpty(t *testing.T) {
	if !page.Empty(api.Page{}) || page.Empty(whole()) {
		t.Error("none, or all eight")
	}
	for i := range 8 {
		for _, at := range append([]int{-1, 1, 2, 3, 4095, 4096, 256, 1 << 32}, far...) {
			if page.Empty(one(i, api.Ref{At: at})) || page.Empty(one(i, api.Ref{At: at, Sum: full(1)})) {
				t.Errorf("At %d at %d", at, i)
			}
		}
		for k := range 32 {
			for _, v := range []byte{1, 128, 255} {
				var sum api.Sum
				sum[k] = v
				if page.Empty(one(i, api.Ref{Sum: sum})) {
					t.Errorf("byte %d of the Sum at %d", k, i)
				}
			}
		}
		if !page.Empty(one(i, api.Ref{})) || page.Empty(with(i, api.Ref{})) {
			t.Errorf("the zero ref at %d", i)
		}
	}
}

// P13.3, P13.4: Leaf of each block: written out by leaves; those with one leaf have unlike places in it.
func TestLeaf(t *testing.T) {
	block := 0
	seen := map[[2]int]int{}
	for index := 1; index <= 8; index++ {
		for place := range 8 {
			leaf(t, block, index, place)
			i, k := page.Leaf(block)
			if other, ok := seen[[2]int{i, k}]; ok {
				t.Errorf("blocks %d and %d: the same place", other, block)
			}
			seen[[2]int{i, k}] = block
			block++
		}
	}
	if block != 64 || len(seen) != 64 {
		t.Errorf("%d blocks, %d places", block, len(seen))
	}
}

// P13.3: Leaf of blocks that are none: one beyond the ends, and far out.
func TestNoLeaf(t *testing.T) {
	for block := -600; block < 600; block++ {
		if block < 0 || block > 63 {
			leaf(t, block, 0, 0)
		}
	}
	for _, block := range append([]int{-1, 64, 65, 71, 72, 127, 128, 255, 256, 1 << 32}, far...) {
		leaf(t, block, 0, 0)
	}
}

// chance is a ref by chance, which most often may be.
func chance(r *rand.Rand) api.Ref {
	var x api.Ref
	switch r.Intn(40) {
	case 0:
		x.At = r.Intn(8000) - 1000
	case 1:
		x.Sum[r.Intn(32)] = byte(r.Intn(256))
	case 2:
		x.At = int(r.Uint64())
	case 3, 4, 5, 6, 7, 8, 9:
		return api.Ref{}
	default:
		x.At = 3 + r.Intn(4093)
		r.Read(x.Sum[:])
	}
	return x
}

// P13.1 to P13.4: nodes by chance against the chapter's words made another way; unlike ones have unlike bytes.
func TestChance(t *testing.T) {
	type node struct {
		index int
		p     api.Page
	}
	r := rand.New(rand.NewSource(13))
	seen := map[string]node{}
	taken := 0
	for range 20000 {
		n := node{index: r.Intn(11) - 1}
		for i := range n.p.Refs {
			n.p.Refs[i] = chance(r)
		}
		if page.Empty(n.p) != (bytes.Count(plainBytes(0, n.p), []byte{0}) == size) {
			t.Errorf("Empty %v", n.p)
		}
		want := plainCheck(n.index, n.p)
		is(t, n.index, n.p, want)
		if want != api.OK {
			continue
		}
		taken++
		b, _ := page.Put(n.index, n.p)
		if was, ok := seen[string(b)]; ok && was != n {
			t.Errorf("%v and %v: the same bytes", was, n)
		}
		seen[string(b)] = n
	}
	if taken < 5000 || taken > 19000 {
		t.Errorf("%d taken", taken)
	}
}

// P13.2, P13.4: bytes by chance, with the higher ones of each number zero so that many are nodes: Put of Get has just these.
func TestBytes(t *testing.T) {
	r := rand.New(rand.NewSource(31))
	taken := 0
	for range 20000 {
		b := make([]byte, size)
		r.Read(b)
		clear(b[:7])
		b[7] %= 10
		for at := 8; at < size; at += 40 {
			clear(b[at : at+6])
			b[at+6] &= 15
			if r.Intn(60) == 0 {
				clear(b[at : at+8])
			}
			if r.Intn(4) == 0 {
				clear(b[at : at+40])
			}
		}
		if _, _, e := plainGet(b); e == api.OK {
			taken++
		}
		stands(t, b)
	}
	if taken < 5000 || taken > 19000 {
		t.Errorf("%d taken", taken)
	}
}

// R3: what Put tells is new memory, in which no other answer lies, with nothing behind its end that is another's.
func TestPutApart(t *testing.T) {
	for _, p := range ordinary() {
		want := plainBytes(2, p)
		a, e := page.Put(2, p)
		b, _ := page.Put(2, p)
		if e != api.OK {
			t.Errorf("%d", e)
		}
		for i := range a {
			a[i] ^= 255
		}
		_ = append(a, make([]byte, 100)...)
		if c, _ := page.Put(2, p); !bytes.Equal(b, want) || !bytes.Equal(c, want) {
			t.Errorf("%x, %x, not %x", b, c, want)
		}
	}
}

// R3: bytes that are handed in stay as they were, what lies behind them too; what Get tells is new memory.
func TestGetApart(t *testing.T) {
	for _, p := range ordinary() {
		room := append(plainBytes(3, p), bytes.Repeat([]byte{7}, 100)...)
		was, b := bytes.Clone(room), room[:size]
		_, q, e := page.Get(b)
		page.Get(room)
		page.Get(b[:size-1])
		page.Get(plainBytes(9, p))
		if e != api.OK || !bytes.Equal(room, was) {
			t.Errorf("%d: %x, not %x", e, room, was)
		}
		again := q
		for i := range again.Refs {
			again.Refs[i] = api.Ref{At: 1, Sum: full(200)}
		}
		if !bytes.Equal(room, was) {
			t.Errorf("behind the answer's change: %x, not %x", room, was)
		}
		clear(room)
		if q != p {
			t.Errorf("behind a change of what was handed in: %v, not %v", q, p)
		}
	}
}

// R4: what was asked ahead makes no difference, nodes and bytes that are refused among it.
func TestAgain(t *testing.T) {
	for range 3 {
		mayNot(t, 9, whole())
		getsNone(t, make([]byte, 327), api.ErrForm)
		may(t, 8, whole())
		getsNone(t, make([]byte, 329), api.ErrLong)
		may(t, 0, api.Page{})
		mayNot(t, 0, one(7, api.Ref{At: 2}))
		leaf(t, -1, 0, 0)
		leaf(t, 31, 4, 7)
		if page.Empty(whole()) || !page.Empty(api.Page{}) {
			t.Error("Empty")
		}
	}
}
