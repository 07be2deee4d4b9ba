package names_test

import (
	"bytes"
	"encoding/binary"
	"math"
	"math/rand"
	"testing"

	"rill/api"
	"rill/names"
)

// allowed are epochs and numbers that may be sealed under, about the ends and about those of their bytes.
var allowed = []int{0, 1, 2, 255, 256, 1<<16 - 1, 1 << 16, 1<<32 - 1, 1 << 32, 0x0102030405, 1<<39 + 1, api.MaxNumber - 1, api.MaxNumber}

// refused are those below and above them.
var refused = []int{-1, -2, -256, -1 << 32, -api.MaxNumber, -1 << 48, math.MinInt, math.MinInt + 1, api.MaxNumber + 1, api.MaxNumber + 2, 2 * api.MaxNumber, 1<<48 - 1, 1 << 48, 1 << 62, math.MaxInt}

// lengths are those of heads and texts.
var lengths = []int{0, 1, 2, 7, 8, 15, 16, 17, 23, 24, 25, 31, 32, 33, 63, 64, 65, 127, 300}

// text are bytes of all kinds.
func text(n int, seed int64) []byte {
	b := make([]byte, n)
	rand.New(rand.NewSource(seed)).Read(b)
	return b
}

// end is what P6.2 (fill 0) and P6.4 (fill 1) word: 24 bytes, and a number's eight.
func end(fill byte, k int) []byte {
	return binary.BigEndian.AppendUint64(bytes.Repeat([]byte{fill}, 24), uint64(k))
}

// sealed are a plain text, and the end of a number.
func sealed(plain []byte, k int) []byte { return append(bytes.Clone(plain), end(0, k)...) }

// seals tells of a call of Seal that does not answer the plain text and a number.
func seals(t *testing.T, x api.Crypt, epoch, number int, head, plain []byte, k int) {
	t.Helper()
	if b := x.Seal(epoch, number, head, plain); !bytes.Equal(b, sealed(plain, k)) {
		t.Errorf("Seal(%d, %d, %x, %x): %x, not number %d", epoch, number, head, plain, b, k)
	}
}

// sums tells of a call of Sum that does not answer a number.
func sums(t *testing.T, x api.Crypt, b []byte, k int) {
	t.Helper()
	if s := x.Sum(b); s != api.Sum(end(1, k)) {
		t.Errorf("Sum(%x): %x, not number %d", b, s, k)
	}
}

// opens tells of a call of Open that does not answer a text.
func opens(t *testing.T, x api.Crypt, epoch, number int, head, sealed, plain []byte) {
	t.Helper()
	if b, ok := x.Open(epoch, number, head, sealed); !ok || !bytes.Equal(b, plain) {
		t.Errorf("Open(%d, %d, %x, %x): %x, %v, not %x", epoch, number, head, sealed, b, ok, plain)
	}
}

// refuses tells of a call of Open that does not answer none and false.
func refuses(t *testing.T, x api.Crypt, epoch, number int, head, sealed []byte) {
	t.Helper()
	if b, ok := x.Open(epoch, number, head, sealed); ok || len(b) > 0 {
		t.Errorf("Open(%d, %d, %x, %x): %x, %v", epoch, number, head, sealed, b, ok)
	}
}

// The chapter's examples.
func TestExamples(t *testing.T) {
	var x api.Crypt = names.New()
	head, plain := []byte{7}, []byte{8, 9}
	first := x.Seal(1, 2, head, plain)
	if again := x.Seal(1, 2, head, plain); !bytes.Equal(first, sealed(plain, 1)) || !bytes.Equal(again, first) {
		t.Errorf("the first one: %x, %x", first, again)
	}
	second, none := x.Seal(1, 3, head, plain), x.Seal(1, -1, head, plain)
	if !bytes.Equal(second, sealed(plain, 2)) || len(none) > 0 {
		t.Errorf("the second one: %x, %x", second, none)
	}
	opens(t, x, 1, 2, head, first, plain)
	refuses(t, x, 1, 3, head, first)
	refuses(t, x, 1, 2, head, second)
	sums(t, x, nil, 1)
	sums(t, x, []byte{5}, 2)
	sums(t, x, nil, 1)
}

// P6.1: a new one remembers nothing, whatever others do.
func TestNew(t *testing.T) {
	head, plain := text(5, 1), text(6, 2)
	x := names.New()
	for i := range 5 {
		seals(t, x, i, i, head, plain, i+1)
		sums(t, x, text(i, 3), i+1)
	}
	y := names.New()
	for k := range 6 {
		refuses(t, y, k, k, head, sealed(plain, k))
		refuses(t, y, k, k, head, sealed(plain, k+1))
		refuses(t, y, 0, 0, nil, end(0, k))
		refuses(t, y, 0, 0, nil, end(1, k))
	}
	seals(t, y, 4, 4, head, plain, 1)
	sums(t, y, text(4, 3), 1)
	refuses(t, x, 4, 4, head, sealed(plain, 1))
	opens(t, y, 4, 4, head, sealed(plain, 1), plain)
	seals(t, x, 9, 9, head, plain, 6)
	sums(t, x, text(9, 3), 6)
	seals(t, y, 9, 9, head, plain, 2)
}

// P6.2: epochs and numbers that may be, each with each, come by numbers in their order; again, they have the same.
func TestSealNumbers(t *testing.T) {
	x := names.New()
	head, plain := text(17, 4), text(33, 5)
	for round := range 3 {
		k := 0
		for _, epoch := range allowed {
			for _, number := range allowed {
				k++
				seals(t, x, epoch, number, head, plain, k)
				if round == 0 {
					seals(t, x, epoch, number, head, plain, k)
				}
				opens(t, x, epoch, number, head, sealed(plain, k), plain)
			}
		}
	}
	seals(t, x, 3, 3, head, plain, len(allowed)*len(allowed)+1)
}

// P6.2: none, under an epoch or a number below 0 or above MaxNumber; and nothing is remembered.
func TestSealRefused(t *testing.T) {
	x := names.New()
	head := text(5, 6)
	k := 0
	for _, plain := range [][]byte{nil, text(1, 7), text(100, 7)} {
		for _, bad := range refused {
			for _, n := range append(allowed, refused...) {
				if a, b := x.Seal(bad, n, head, plain), x.Seal(n, bad, head, plain); len(a) > 0 || len(b) > 0 {
					t.Errorf("%d, %d: %x, %x", bad, n, a, b)
				}
				for near := range 3 {
					refuses(t, x, bad, n, head, sealed(plain, k+near))
					refuses(t, x, n, bad, head, sealed(plain, k+near))
				}
			}
			k++
			seals(t, x, 1, k, head, plain, k)
		}
	}
}

// P6.2: heads and plain texts of all lengths, noughts and bytes of which all bits are 1 among them.
func TestSealLengths(t *testing.T) {
	x := names.New()
	k := 0
	for _, h := range lengths {
		for _, n := range append([]int{api.MaxPlain, api.SectorSize, 1<<16 + 5}, lengths...) {
			k++
			seals(t, x, 1, 2, text(h, 8), text(n, 9), k)
			opens(t, x, 1, 2, text(h, 8), sealed(text(n, 9), k), text(n, 9))
		}
	}
	x, k = names.New(), 0
	for n := range 70 {
		for _, plain := range [][]byte{make([]byte, n+1), bytes.Repeat([]byte{0xff}, n+1), bytes.Repeat([]byte{0x80}, n+1)} {
			k++
			seals(t, x, 0, 0, nil, plain, k)
			opens(t, x, 0, 0, nil, sealed(plain, k), plain)
		}
	}
}

// P6.2: numbers of more than one byte, and of more than two.
func TestSealMany(t *testing.T) {
	x := names.New()
	for k := 1; k <= 1<<16+300; k++ {
		if s := x.Seal(k%7, k, nil, nil); !bytes.Equal(s, end(0, k)) {
			t.Fatalf("%d: %x", k, s)
		}
	}
	for _, k := range []int{1, 255, 256, 257, 1<<16 - 1, 1 << 16, 1<<16 + 1, 1<<16 + 300} {
		seals(t, x, k%7, k, nil, nil, k)
		opens(t, x, k%7, k, nil, end(0, k), nil)
		for _, other := range []int{1 << 8, 1 << 16, 1 << 17, 1 << 31, 1 << 32, math.MinInt} {
			refuses(t, x, k%7, k, nil, end(0, k^other))
		}
	}
}

// P6.2, P6.3: a list may be nil or empty: they are one.
func TestNone(t *testing.T) {
	none := [][]byte{nil, {}, make([]byte, 0, 50), text(50, 10)[:0], text(50, 10)[50:]}
	x := names.New()
	for _, head := range none {
		for _, plain := range none {
			seals(t, x, 0, 0, head, plain, 1)
			opens(t, x, 0, 0, plain, end(0, 1), nil)
			refuses(t, x, 0, 0, head, plain)
		}
		seals(t, x, 0, 0, head, []byte{0}, 2)
		seals(t, x, 0, 0, []byte{0}, head, 3)
		opens(t, x, 0, 0, head, sealed([]byte{0}, 2), []byte{0})
		opens(t, x, 0, 0, []byte{0}, end(0, 3), nil)
		sums(t, x, head, 1)
	}
}

// P6.2: the same sealed again has its number, alone, and behind and between others; each of the four counts.
func TestSealFours(t *testing.T) {
	type four struct {
		epoch, number int
		head, plain   string
	}
	all := []four{
		{1, 2, "ab", "cd"},
		{2, 1, "ab", "cd"},
		{1, 3, "ab", "cd"},
		{3, 2, "ab", "cd"},
		{12, 3, "", ""},
		{1, 23, "", ""},
		{0, 123, "", ""},
		{1, 2, "cd", "ab"},
		{1, 2, "a", "bcd"},
		{1, 2, "abc", "d"},
		{1, 2, "abcd", ""},
		{1, 2, "", "abcd"},
		{1, 2, "ab", ""},
		{1, 2, "", "ab"},
		{1, 2, "ab", "cd\x00"},
		{1, 2, "ab\x00", "cd"},
		{1, 2, "\x00ab", "cd"},
		{1, 2, "ab", "\x00cd"},
		{1, 2, "ab", "cD"},
		{1, 2, "AB", "cd"},
		{1, 2, "\xff", "\xfe"},
		{1, 2, "\xfe", "\xff"},
		{1, 2, "\xef\xbf\xbd", "\xfe"},
		{1, 2, "\xff", "\xef\xbf\xbd"},
		{1, 2, "\x00", ""},
		{1, 2, "", "\x00"},
		{1, 2, "\x00\x00", ""},
		{1, 2, "", "\x00\x00"},
	}
	x := names.New()
	for i, c := range all {
		seals(t, x, c.epoch, c.number, []byte(c.head), []byte(c.plain), i+1)
		seals(t, x, c.epoch, c.number, []byte(c.head), []byte(c.plain), i+1)
		for k, b := range all[:i+1] {
			seals(t, x, b.epoch, b.number, []byte(b.head), []byte(b.plain), k+1)
		}
	}
	for i, c := range all {
		for k, b := range all {
			if i != k {
				refuses(t, x, c.epoch, c.number, []byte(c.head), sealed([]byte(c.plain), k+1))
			}
			if c.epoch == b.epoch && c.number == b.number && c.head == b.head {
				opens(t, x, c.epoch, c.number, []byte(c.head), sealed([]byte(b.plain), k+1), []byte(b.plain))
			} else {
				refuses(t, x, c.epoch, c.number, []byte(c.head), sealed([]byte(b.plain), k+1))
			}
		}
	}
}

// P6.2, P6.4: what was sealed and what was summed are numbered each for itself.
func TestApart(t *testing.T) {
	x := names.New()
	for k := range 20 {
		sums(t, x, text(k, 11), 2*k+1)
		sums(t, x, text(k+50, 11), 2*k+2)
		seals(t, x, 1, 2, nil, text(k, 11), k+1)
		seals(t, x, 1, 2, nil, text(k, 11), k+1)
		s := sealed(text(k, 11), k+1)
		opens(t, x, 1, 2, nil, s, text(k, 11))
		refuses(t, x, 1, 2, nil, append(text(k, 11), end(1, 2*k+1)...))
		refuses(t, x, 1, 2, nil, append(text(k, 11), end(1, k+1)...))
	}
	sums(t, x, sealed(text(3, 11), 4), 41)
	refuses(t, x, 1, 2, nil, end(1, 41))
}

// P6.3: fewer than TagSize bytes are none, whatever they are; just so many are the end of no bytes, or none.
func TestOpenShort(t *testing.T) {
	x := names.New()
	seals(t, x, 1, 2, nil, nil, 1)
	seals(t, x, 1, 2, nil, make([]byte, 5), 2)
	whole := end(0, 1)
	for n := range api.TagSize {
		for _, b := range [][]byte{whole[:n], whole[api.TagSize-n:], make([]byte, n), text(n, 12)} {
			refuses(t, x, 1, 2, nil, b)
		}
	}
	opens(t, x, 1, 2, nil, whole, nil)
	refuses(t, x, 1, 2, nil, end(0, 0))
	refuses(t, x, 1, 2, nil, end(0, 2))
	refuses(t, x, 1, 2, nil, make([]byte, api.TagSize+5))
	refuses(t, x, 1, 2, nil, bytes.Repeat([]byte{0xff}, api.TagSize))
	refuses(t, x, 1, 2, nil, sealed(make([]byte, 5), 1))
	opens(t, x, 1, 2, nil, sealed(make([]byte, 5), 2), make([]byte, 5))
}

// P6.3: numbers under which nothing is remembered: 0, those to come, and those that are near in some of their bytes.
func TestOpenNoNumber(t *testing.T) {
	x := names.New()
	none := []int{0, -1, math.MinInt, math.MaxInt, 1 << 62, -1 << 62}
	for bit := range 64 {
		none = append(none, int(uint64(1)<<bit))
	}
	for k := range 12 {
		head, plain := text(k, 13), text(3*k, 14)
		for _, n := range append(none, k+1) {
			refuses(t, x, 1, k, head, sealed(plain, n))
		}
		seals(t, x, 1, k, head, plain, k+1)
		for _, n := range none {
			if n != k+1 {
				refuses(t, x, 1, k, head, sealed(plain, n))
				refuses(t, x, 1, k, nil, end(0, n))
			}
			if n != 0 {
				refuses(t, x, 1, k, head, sealed(plain, n^(k+1)))
			}
		}
		refuses(t, x, 1, k, head, sealed(plain, -k-1))
		refuses(t, x, 1, k, head, sealed(plain, k+2))
		opens(t, x, 1, k, head, sealed(plain, k+1), plain)
	}
}

// P6.3, P6.5: each byte of what was sealed counts, and each one of the head.
func TestOpenBytes(t *testing.T) {
	x := names.New()
	for i, n := range []int{1, 2, 16, 32, 64} {
		head, plain := text(n, 15), text(n, 16)
		seals(t, x, 11, 12, head, plain, i+1)
		s := sealed(plain, i+1)
		for _, b := range [][]byte{s, head} {
			for at := range b {
				for by := range 255 {
					b[at] += byte(by + 1)
					refuses(t, x, 11, 12, head, s)
					b[at] -= byte(by + 1)
				}
			}
		}
		opens(t, x, 11, 12, head, s, plain)
	}
}

// P6.3, P6.5: each byte cut off or put in, at either end and midway, and two that changed places.
func TestOpenCut(t *testing.T) {
	x := names.New()
	head := text(17, 17)
	for i, n := range []int{0, 1, 16, 33, 70} {
		plain := text(n, 18)
		seals(t, x, 13, 14, head, plain, i+1)
		s := sealed(plain, i+1)
		for at := range s {
			refuses(t, x, 13, 14, head, s[:at])
			refuses(t, x, 13, 14, head, s[at+1:])
			refuses(t, x, 13, 14, head, append(bytes.Clone(s[:at]), s[at+1:]...))
			refuses(t, x, 13, 14, head, append(append(bytes.Clone(s[:at]), 0), s[at:]...))
			if other := (at + 1) % len(s); s[at] != s[other] {
				b := bytes.Clone(s)
				b[at], b[other] = b[other], b[at]
				refuses(t, x, 13, 14, head, b)
			}
		}
		refuses(t, x, 13, 14, head, append(bytes.Clone(s), 0))
		refuses(t, x, 13, 14, head, append(bytes.Clone(s), s...))
		refuses(t, x, 13, 14, head, append(make([]byte, 1), s...))
		refuses(t, x, 13, 14, head, append(bytes.Clone(s), end(0, i+1)...))
		opens(t, x, 13, 14, head, append(s, 0)[:n+api.TagSize], plain)
	}
}

// P6.3, P6.5: under another epoch or another number, that may be or not, nothing is opened.
func TestOpenNumbers(t *testing.T) {
	x := names.New()
	head, plain := text(17, 19), text(20, 20)
	k := 0
	for i, epoch := range allowed {
		for j, number := range allowed {
			k++
			seals(t, x, epoch, number, head, plain, k)
			s := sealed(plain, k)
			if i != j {
				refuses(t, x, number, epoch, head, s)
			}
			for bit := range 64 {
				refuses(t, x, epoch^int(uint64(1)<<bit), number, head, s)
				refuses(t, x, epoch, number^int(uint64(1)<<bit), head, s)
			}
			for _, near := range []int{-256, -2, -1, 1, 2, 256, 1 << 48} {
				refuses(t, x, epoch+near, number, head, s)
				refuses(t, x, epoch, number+near, head, s)
				refuses(t, x, epoch+near, number-near, head, s)
			}
			for _, bad := range refused {
				refuses(t, x, bad, number, head, s)
				refuses(t, x, epoch, bad, head, s)
			}
		}
	}
}

// P6.3, P6.5: under another head nothing is opened, and no byte goes over from the head to the plain text.
func TestOpenHeads(t *testing.T) {
	x := names.New()
	head, plain := text(30, 21), text(40, 22)
	seals(t, x, 15, 16, head, plain, 1)
	s := sealed(plain, 1)
	for n := range 30 {
		refuses(t, x, 15, 16, head[:n], s)
		refuses(t, x, 15, 16, head[n+1:], s)
		refuses(t, x, 15, 16, head[:n], append(bytes.Clone(head[n:]), s...))
	}
	for n := range 40 {
		refuses(t, x, 15, 16, append(bytes.Clone(head), make([]byte, n+1)...), s)
		refuses(t, x, 15, 16, append(make([]byte, n+1), head...), s)
		refuses(t, x, 15, 16, append(bytes.Clone(head), plain[:n+1]...), s[n+1:])
	}
	refuses(t, x, 15, 16, plain, sealed(head, 1))
	opens(t, x, 15, 16, head, s, plain)
}

// P6.3, P6.5: the end of another thing that was sealed opens nothing, also where it is of the same plain text, or of the same three.
func TestOpenOtherEnds(t *testing.T) {
	x := names.New()
	head, plain := text(4, 23), text(5, 24)
	seals(t, x, 1, 2, head, plain, 1)
	seals(t, x, 1, 2, head, nil, 2)
	seals(t, x, 1, 2, nil, plain, 3)
	seals(t, x, 1, 3, head, plain, 4)
	seals(t, x, 2, 2, head, plain, 5)
	seals(t, x, 1, 2, head, text(5, 25), 6)
	for k := range 8 {
		if k != 1 {
			refuses(t, x, 1, 2, head, sealed(plain, k))
		}
		if k != 2 {
			refuses(t, x, 1, 2, head, end(0, k))
		}
		if k != 6 {
			refuses(t, x, 1, 2, head, sealed(text(5, 25), k))
		}
		refuses(t, x, 3, 3, head, sealed(plain, k))
	}
}

// P6.3, P6.5: bytes as Seal will answer them are not opened until it has.
func TestOpenAhead(t *testing.T) {
	x := names.New()
	for k := range 30 {
		head, plain := text(k%4, 26), text(k, 27)
		s := sealed(plain, k+1)
		refuses(t, x, 1, 2, head, s)
		sums(t, x, s, 2*k+1)
		sums(t, x, plain, 2*k+2)
		refuses(t, x, 1, 2, head, s)
		seals(t, x, 1, 2, head, plain, k+1)
		opens(t, x, 1, 2, head, s, plain)
	}
}

// P6.3, P6.6: Open remembers nothing, whatever it answers.
func TestOpenRemembersNothing(t *testing.T) {
	x := names.New()
	for k := range 20 {
		head, plain := text(6, 28), text(k, 29)
		for n := range 5 {
			refuses(t, x, 1, 2, head, sealed(plain, k+n))
			refuses(t, x, 1, 2, head, text(50, int64(n)))
		}
		seals(t, x, 1, 2, head, plain, k+1)
		for range 3 {
			opens(t, x, 1, 2, head, sealed(plain, k+1), plain)
			refuses(t, x, 1, 3, head, sealed(plain, k+1))
		}
		sums(t, x, plain, k+1)
	}
}

// P6.4: texts get numbers in their order, each one once.
func TestSum(t *testing.T) {
	x := names.New()
	var all [][]byte
	for n := range 80 {
		all = append(all, make([]byte, n), bytes.Repeat([]byte{0xff}, n+1), text(n+1, 30), end(1, n+1), end(0, n))
	}
	all = append(all, []byte("\xef\xbf\xbd"), []byte("\xfe"), text(api.SectorSize, 31), text(1<<16+3, 31), text(1<<16+4, 31))
	seen := map[string]int{}
	for _, b := range all {
		if seen[string(b)] == 0 {
			seen[string(b)] = len(seen) + 1
		}
		sums(t, x, b, seen[string(b)])
		sums(t, x, b, seen[string(b)])
	}
	for _, b := range all {
		sums(t, x, b, seen[string(b)])
	}
	sums(t, x, []byte{1, 2, 3}, len(seen)+1)
}

// P6.4: numbers of more than one byte, and of more than two.
func TestSumMany(t *testing.T) {
	x := names.New()
	for k := 1; k <= 1<<16+300; k++ {
		if s := x.Sum(binary.AppendUvarint(nil, uint64(k))); s != api.Sum(end(1, k)) {
			t.Fatalf("%d: %x", k, s)
		}
	}
	for _, k := range []int{1, 255, 256, 257, 1<<16 - 1, 1 << 16, 1<<16 + 1, 1<<16 + 300} {
		sums(t, x, binary.AppendUvarint(nil, uint64(k)), k)
	}
}

// P6.6: sums are the same just if the texts are: texts that differ by one bit, by a byte more or less, or by their order.
func TestSumApart(t *testing.T) {
	x := names.New()
	b := text(40, 32)
	seen := map[api.Sum]bool{x.Sum(b): true}
	tell := func(c []byte) {
		t.Helper()
		s := x.Sum(c)
		if seen[s] || x.Sum(bytes.Clone(c)) != s {
			t.Errorf("%x: %x", c, s)
		}
		seen[s] = true
	}
	for bit := range 8 * len(b) {
		b[bit/8] ^= 1 << (bit % 8)
		tell(b)
		b[bit/8] ^= 1 << (bit % 8)
	}
	for n := range b {
		tell(b[:n])
		if n > 0 {
			tell(b[n:])
			tell(append(bytes.Clone(b[n:]), b[:n]...))
		}
		tell(append(bytes.Clone(b), make([]byte, n+1)...))
		tell(append(make([]byte, n+1), b...))
	}
	if !seen[x.Sum(b)] {
		t.Error("the first one")
	}
}

// entry is what a list remembers of a call of Seal.
type entry struct {
	epoch, number int
	head, plain   string
}

// list is what the chapter words, by lists alone.
type list struct {
	entries []entry
	texts   []string
}

func find[T comparable](all []T, what T) int {
	for i := range all {
		if all[i] == what {
			return i + 1
		}
	}
	return 0
}

func may(n int) bool { return 0 <= n && n <= 1<<40 }

func (l *list) Seal(epoch, number int, head, plain []byte) []byte {
	if !may(epoch) || !may(number) {
		return nil
	}
	e := entry{epoch, number, string(head), string(plain)}
	if find(l.entries, e) == 0 {
		l.entries = append(l.entries, e)
	}
	return sealed(plain, find(l.entries, e))
}

func (l *list) Open(epoch, number int, head, sealed []byte) ([]byte, bool) {
	if len(sealed) < 32 {
		return nil, false
	}
	plain, tag := sealed[:len(sealed)-32], sealed[len(sealed)-32:]
	for _, c := range tag[:24] {
		if c != 0 {
			return nil, false
		}
	}
	k := binary.BigEndian.Uint64(tag[24:])
	if k == 0 || k > uint64(len(l.entries)) {
		return nil, false
	}
	return plain, l.entries[k-1] == entry{epoch, number, string(head), string(plain)}
}

func (l *list) Sum(b []byte) api.Sum {
	if find(l.texts, string(b)) == 0 {
		l.texts = append(l.texts, string(b))
	}
	return api.Sum(end(1, find(l.texts, string(b))))
}

// All promises: calls by chance, of few unlike things, answer what lists do.
func TestChance(t *testing.T) {
	for seed := range 40 {
		r := rand.New(rand.NewSource(int64(seed)))
		some := func() []byte { return []byte("abab\x00\x00\xff\xff")[r.Intn(8):][:r.Intn(2)] }
		several := func() []byte { return bytes.Join([][]byte{some(), some(), some()}, nil) }
		where := func() int { return []int{0, 1, api.MaxNumber, 2, -1, api.MaxNumber + 1}[r.Intn(6)] }
		x, y := names.New(), &list{}
		var laid [][]byte
		for range 1500 {
			epoch, number, head, plain := where(), where(), some(), several()
			switch r.Intn(4) {
			case 0:
				a, b := x.Seal(epoch, number, head, plain), y.Seal(epoch, number, head, plain)
				if !bytes.Equal(a, b) {
					t.Fatalf("Seal(%d, %d, %x, %x): %x, not %x", epoch, number, head, plain, a, b)
				}
				laid = append(laid, a)
			case 1:
				if a, b := x.Sum(plain), y.Sum(plain); a != b {
					t.Fatalf("Sum(%x): %x, not %x", plain, a, b)
				}
			case 2:
				if len(laid) > 0 {
					compareOpen(t, x, y, epoch, number, head, laid[r.Intn(len(laid))])
				}
			case 3:
				compareOpen(t, x, y, epoch, number, head, sealed(plain, r.Intn(len(y.entries)+3)))
			}
		}
	}
}

func compareOpen(t *testing.T, x, y api.Crypt, epoch, number int, head, s []byte) {
	t.Helper()
	if want, is := y.Open(epoch, number, head, s); is {
		opens(t, x, epoch, number, head, s, want)
	} else {
		refuses(t, x, epoch, number, head, s)
	}
}

// P6.5: what was sealed is opened, at once and behind many others.
func TestBack(t *testing.T) {
	r := rand.New(rand.NewSource(33))
	x := names.New()
	var all []entry
	var laid [][]byte
	for range 2000 {
		e := entry{r.Intn(api.MaxNumber + 1), r.Intn(api.MaxNumber + 1), string(text(r.Intn(40), r.Int63())), string(text(r.Intn(100), r.Int63()))}
		all = append(all, e)
		laid = append(laid, x.Seal(e.epoch, e.number, []byte(e.head), []byte(e.plain)))
		i := r.Intn(len(all))
		opens(t, x, all[i].epoch, all[i].number, []byte(all[i].head), laid[i], []byte(all[i].plain))
		refuses(t, x, r.Intn(api.MaxNumber), 0, text(r.Intn(40), r.Int63()), text(r.Intn(120), r.Int63()))
	}
	for i, e := range all {
		opens(t, x, e.epoch, e.number, []byte(e.head), laid[i], []byte(e.plain))
		seals(t, x, e.epoch, e.number, []byte(e.head), []byte(e.plain), i+1)
	}
}

// R3: what is handed in is not changed, nor what lies ahead of it and behind its end; they may be one list.
func TestNotChanged(t *testing.T) {
	for _, n := range lengths {
		for _, room := range []int{0, 20, 60} {
			x := names.New()
			heads, plains := text(n+100, 34), text(n+100, 35)
			head, plain := heads[30:30+n:30+n+room], plains[30:30+n:30+n+room]
			x.Seal(1, 2, head, plain)
			x.Seal(-1, 2, head, plain)
			x.Sum(plain)
			if !bytes.Equal(heads, text(n+100, 34)) || !bytes.Equal(plains, text(n+100, 35)) {
				t.Errorf("%d bytes: Seal changed", n)
			}
			laid := append(append(text(30, 36), sealed(plain, 1)...), text(60, 37)...)
			first, last := bytes.Clone(laid), 30+n+api.TagSize
			opens(t, x, 1, 2, head, laid[30:last:last+room], plain)
			refuses(t, x, 2, 1, head, laid[30:last:last+room])
			if !bytes.Equal(laid, first) || !bytes.Equal(heads, text(n+100, 34)) {
				t.Errorf("%d bytes: Open changed", n)
			}
			whole := text(2*n+100, 38)
			seals(t, x, 1, 2, whole[:n+9], whole[n/2:n+n/2], 2)
			if !bytes.Equal(whole, text(2*n+100, 38)) {
				t.Errorf("%d bytes: one list", n)
			}
		}
	}
}

// R3: an answer is new memory, with its spare room too, and nothing that was handed in or out is kept.
func TestNewMemory(t *testing.T) {
	for _, n := range lengths {
		x := names.New()
		head, plain := text(n+64, 39)[:n], text(n+64, 40)[:n]
		first, second := x.Seal(1, 2, head, plain), x.Seal(1, 2, head, plain)
		x.Sum(plain)
		clear(first[:cap(first)])
		if !bytes.Equal(second, sealed(text(n+64, 40)[:n], 1)) || !bytes.Equal(head[:n+64], text(n+64, 39)) || !bytes.Equal(plain[:n+64], text(n+64, 40)) {
			t.Errorf("%d bytes: what Seal answered written over", n)
		}
		clear(head[:n+64])
		clear(plain[:n+64])
		head, plain = text(n+64, 39)[:n], text(n+64, 40)[:n]
		seals(t, x, 1, 2, head, plain, 1)
		sums(t, x, plain, 1)
		laid := append(sealed(plain, 1), text(64, 41)...)[:n+api.TagSize]
		one, _ := x.Open(1, 2, head, laid)
		two, _ := x.Open(1, 2, head, laid)
		clear(one[:cap(one)])
		if !bytes.Equal(two, plain) || !bytes.Equal(laid[:n+api.TagSize+64], append(sealed(plain, 1), text(64, 41)...)) {
			t.Errorf("%d bytes: what Open answered written over", n)
		}
		clear(laid[:n+api.TagSize+64])
		if !bytes.Equal(two, plain) {
			t.Errorf("%d bytes: what Open was given written over", n)
		}
		opens(t, x, 1, 2, head, sealed(plain, 1), plain)
		seals(t, x, 1, 2, head, nil, min(n, 1)+1)
	}
}

// R4: an answer hangs on the object and its calls alone: several do the same, one beside the other.
func TestAlone(t *testing.T) {
	all := []api.Crypt{names.New(), names.New(), names.New()}
	for n := range 200 {
		head, plain := text(n%19, 42), text(n%31, 43)
		want := all[0].Seal(n%3, n%5, head, plain)
		sum := all[0].Sum(plain)
		for i, x := range all {
			if !bytes.Equal(x.Seal(n%3, n%5, head, plain), want) || x.Sum(plain) != sum {
				t.Fatalf("%d, %d", n, i)
			}
			opens(t, x, n%3, n%5, head, want, plain)
		}
	}
}
