package ctr_test

import (
	"bytes"
	goaes "crypto/aes"
	"crypto/cipher"
	"encoding/binary"
	"encoding/hex"
	"math"
	"math/rand"
	"testing"

	"rill/aes"
	"rill/api"
	"rill/ctr"
)

// sizes are the lengths that a key may have.
var sizes = []int{16, 24, 32}

// numbers are epochs and numbers about the ends of their 48 bits, of each of their bytes, and of an int.
func numbers() []int {
	ns := []int{0, math.MinInt, math.MinInt + 1, math.MaxInt, math.MaxInt - 1, api.MaxNumber, 0x0102030405060708, -0x0102030405060708}
	for bit := 0; bit < 63; bit += 8 {
		for near := -2; near <= 2; near++ {
			ns = append(ns, 1<<bit+near, -1<<bit+near)
		}
	}
	for near := -1; near <= 1; near++ {
		ns = append(ns, 1<<47+near, -1<<47+near, 1<<49+near, 3<<48+near, -3<<48+near)
	}
	return ns
}

// lengths are those about the ends of blocks.
func lengths() []int {
	var ns []int
	for n := range 100 {
		ns = append(ns, n)
	}
	for _, blocks := range []int{16, 60, 61, 64, 127, 128, 255, 256, 257} {
		for near := -1; near <= 1; near++ {
			ns = append(ns, 16*blocks+near)
		}
	}
	return append(ns, api.BlockSize, api.MaxPlain, api.SectorSize)
}

// text are bytes of all kinds.
func text(n int, seed int64) []byte {
	b := make([]byte, n)
	rand.New(rand.NewSource(seed)).Read(b)
	return b
}

// unhex are the bytes of a text.
func unhex(text string) []byte {
	b, err := hex.DecodeString(text)
	if err != nil {
		panic(err)
	}
	return b
}

// ours is the cipher of a key.
func ours(key []byte) *aes.Cipher {
	c, e := aes.New(key)
	if e != api.OK {
		panic(e)
	}
	return c
}

// theirs is the cipher of a key as the library of Go has it.
func theirs(key []byte) cipher.Block {
	c, err := goaes.NewCipher(key)
	if err != nil {
		panic(err)
	}
	return c
}

// input are the sixteen bytes of which the cipher makes the i-th block, each number put down in eight bytes and cut.
func input(epoch, number, i int) [16]byte {
	var in []byte
	in = append(in, binary.BigEndian.AppendUint64(nil, uint64(epoch))[2:]...)
	in = append(in, binary.BigEndian.AppendUint64(nil, uint64(number))[2:]...)
	in = append(in, binary.BigEndian.AppendUint64(nil, uint64(i))[4:]...)
	return [16]byte(in)
}

// want is b xored with the stream, as the chapter words it, by the library's cipher.
func want(key []byte, epoch, number int, b []byte) []byte {
	c := theirs(key)
	to := make([]byte, len(b))
	for at := range b {
		in := input(epoch, number, at/16)
		var out [16]byte
		c.Encrypt(out[:], in[:])
		to[at] = b[at] ^ out[at%16]
	}
	return to
}

// isStream tells whether bytes are a beginning of the stream, as the library's own counter mode has it; it overwrites them.
func isStream(key []byte, epoch, number int, b []byte) bool {
	in := input(epoch, number, 0)
	cipher.NewCTR(theirs(key), in[:]).XORKeyStream(b, b)
	return bytes.Count(b, []byte{0}) == len(b)
}

// The chapter's examples.
func TestExamples(t *testing.T) {
	for _, size := range sizes {
		c := ours(text(size, 1))
		first := c.Block([16]byte{5: 1, 11: 2})
		second := c.Block([16]byte{5: 1, 11: 2, 15: 1})
		stream := append(first[:], second[:4]...)
		if got := ctr.Xor(c, 1, 2, make([]byte, 20)); !bytes.Equal(got, stream) {
			t.Errorf("key of %d: %x, not %x", size, got, stream)
		}
		for _, n := range lengths() {
			b := text(n, 2)
			if !bytes.Equal(ctr.Xor(c, 1<<48+1, 2, b), ctr.Xor(c, 1, 2, b)) {
				t.Errorf("key of %d, %d bytes: 2^48 + 1 is not as 1", size, n)
			}
		}
	}
}

// P4.1: the vectors of RFC 3686, which count their blocks from 1 on.
func TestPublished(t *testing.T) {
	counted := "000102030405060708090a0b0c0d0e0f101112131415161718191a1b1c1d1e1f"
	single := hex.EncodeToString([]byte("Single block msg"))
	for _, x := range []struct{ key, start, plain, turned string }{
		{"ae6852f8121067cc4bf7a5765577f39e", "000000300000000000000000", single, "e4095d4fb7a7b3792d6175a3261311b8"},
		{"7e24067817fae0d743d6ce1f32539163", "006cb6dbc0543b59da48d90b", counted, "5104a106168a72d9790d41ee8edad388eb2e1efc46da57c8fce630df9141be28"},
		{"7691be035e5020a8ac6e618529f9a0dc", "00e0017b27777f3f4a1786f0", counted + "20212223", "c1cf48a89f2ffdd9cf4652e9efdb72d74540a42bde6d7836d59a5ceaaef3105325b2072f"},
		{"16af5b145fc9f579c175f93e3bfb0eed863d06ccfdb78515", "0000004836733c147d6d93cb", single, "4b55384fe259c9c84e7935a003cbe928"},
		{"776beff2851db06f4c8a0542c8696f6c6a81af1eec96b4d37fc1d689e6c1c104", "00000060db5672c97aa8f0b2", single, "145ad01dbf824ec7560863dc71e3e0c0"},
	} {
		start := unhex(x.start)
		epoch := binary.BigEndian.Uint64(append([]byte{0, 0}, start[:6]...))
		number := binary.BigEndian.Uint64(append([]byte{0, 0}, start[6:]...))
		b := append(make([]byte, 16), unhex(x.plain)...)
		got := ctr.Xor(ours(unhex(x.key)), int(epoch), int(number), b)
		if hex.EncodeToString(got[16:]) != x.turned {
			t.Errorf("key %s: %x", x.key, got[16:])
		}
	}
}

// P4.1: all lengths about the ends of blocks, under keys of all sizes.
func TestLengths(t *testing.T) {
	for _, size := range sizes {
		key := text(size, 3)
		c := ours(key)
		for _, n := range lengths() {
			for _, b := range [][]byte{text(n, 4), make([]byte, n), bytes.Repeat([]byte{0xff}, n), text(n+50, 5)[:n]} {
				got := ctr.Xor(c, 0x010203040506, 0x0708090a0b0c, b)
				if !bytes.Equal(got, want(key, 0x010203040506, 0x0708090a0b0c, b)) {
					t.Fatalf("key of %d, %d bytes: %x", size, n, got)
				}
			}
		}
	}
}

// P4.1: of no bytes, nil or empty, none come, whatever room lies behind them.
func TestNone(t *testing.T) {
	c := ours(text(16, 6))
	for _, b := range [][]byte{nil, {}, make([]byte, 0, 40), text(40, 7)[:0], text(40, 7)[40:]} {
		for _, n := range numbers() {
			if got := ctr.Xor(c, n, -n, b); len(got) != 0 {
				t.Errorf("nil %v, %d: %x", b == nil, n, got)
			}
		}
	}
}

// P4.1: epochs and numbers about the ends of their 48 bits, and below 0.
func TestNumbers(t *testing.T) {
	for _, size := range sizes {
		key := text(size, 8)
		c := ours(key)
		b := text(37, 9)
		for _, epoch := range numbers() {
			for _, number := range numbers() {
				if got := ctr.Xor(c, epoch, number, b); !bytes.Equal(got, want(key, epoch, number, b)) {
					t.Fatalf("key of %d, %d, %d: %x", size, epoch, number, got)
				}
			}
		}
	}
}

// P4.1: epochs, numbers, keys and texts of all kinds.
func TestMany(t *testing.T) {
	r := rand.New(rand.NewSource(10))
	for i := range 3000 {
		key, b := text(sizes[i%3], r.Int63()), text(r.Intn(120), r.Int63())
		epoch, number := int(r.Uint64()), int(r.Uint64())
		if got := ctr.Xor(ours(key), epoch, number, b); !bytes.Equal(got, want(key, epoch, number, b)) {
			t.Fatalf("key %x, %d, %d, %x: %x", key, epoch, number, b, got)
		}
	}
}

// P4.1: the bits of an epoch and of a number above the lowest 48 make no difference.
func TestLowestBits(t *testing.T) {
	c := ours(text(24, 11))
	b := text(33, 12)
	const end = 1 << 48
	for _, n := range numbers() {
		low := n & (end - 1)
		epoch, number := ctr.Xor(c, low, 7, b), ctr.Xor(c, 7, low, b)
		for bit := 48; bit < 64; bit++ {
			m := low ^ int(uint64(1)<<bit)
			if !bytes.Equal(ctr.Xor(c, m, 7, b), epoch) || !bytes.Equal(ctr.Xor(c, 7, m, b), number) {
				t.Fatalf("%d is not as %d", m, low)
			}
		}
		if !bytes.Equal(ctr.Xor(c, n, 7, b), epoch) || !bytes.Equal(ctr.Xor(c, 7, n, b), number) {
			t.Fatalf("%d is not as %d", n, low)
		}
	}
	for _, n := range []int{1, 2, 7, 1 << 40, end - 1, end} {
		if !bytes.Equal(ctr.Xor(c, -n, -n, b), ctr.Xor(c, end-n, end-n, b)) {
			t.Errorf("%d is not as its two's complement", -n)
		}
	}
}

// P4.1: each of the lowest 48 bits counts, in its own place: no two streams have a block in common.
func TestEachBitCounts(t *testing.T) {
	c := ours(text(16, 13))
	seen := map[[16]byte][3]int{}
	see := func(epoch, number int) {
		stream := ctr.Xor(c, epoch, number, make([]byte, 16*20))
		for i := range 20 {
			block, who := [16]byte(stream[16*i:]), [3]int{epoch, number, i}
			if other, ok := seen[block]; ok {
				t.Fatalf("%v and %v have one block", who, other)
			}
			seen[block] = who
		}
	}
	see(0, 0)
	for bit := range 48 {
		see(1<<bit, 0)
		see(0, 1<<bit)
		see(1<<bit, 1<<bit)
	}
}

// P4.1: the block's number has four bytes, and each of them counts: it goes on past the end of each.
func TestBlockNumbers(t *testing.T) {
	for _, blocks := range []int{1 << 8, 1 << 16, 1 << 17, 1 << 24} {
		key, n := text(16, int64(blocks)), 16*blocks+23
		got := ctr.Xor(ours(key), -1, 3<<40, make([]byte, n))
		if len(got) != n || !isStream(key, -1, 3<<40, got) {
			t.Errorf("%d bytes: not the stream, or %d of it", n, len(got))
		}
	}
}

// P4.2: twice is once back.
func TestBack(t *testing.T) {
	for _, size := range sizes {
		c := ours(text(size, 14))
		for _, n := range lengths() {
			for _, number := range []int{0, 1, -1, 1<<48 - 1, 1 << 48, math.MinInt, math.MaxInt} {
				for _, b := range [][]byte{text(n, 15), make([]byte, n)} {
					once := ctr.Xor(c, number, 5, b)
					if !bytes.Equal(ctr.Xor(c, number, 5, once), b) {
						t.Fatalf("key of %d, %d bytes, epoch %d", size, n, number)
					}
					if n >= 16 && bytes.Equal(once, b) {
						t.Fatalf("key of %d, %d bytes, epoch %d: not turned", size, n, number)
					}
					once = ctr.Xor(c, 5, number, b)
					if !bytes.Equal(ctr.Xor(c, 5, number, once), b) {
						t.Fatalf("key of %d, %d bytes, number %d", size, n, number)
					}
				}
			}
		}
	}
}

// P4.3: a beginning becomes that beginning of what the whole becomes, whatever comes behind it.
func TestBeginning(t *testing.T) {
	c := ours(text(32, 16))
	b := text(16*17+3, 17)
	whole := ctr.Xor(c, 9, -9, b)
	for n := range len(b) + 1 {
		if !bytes.Equal(ctr.Xor(c, 9, -9, b[:n]), whole[:n]) {
			t.Fatalf("the first %d bytes, with others behind their end", n)
		}
		if !bytes.Equal(ctr.Xor(c, 9, -9, bytes.Clone(b[:n])), whole[:n]) {
			t.Fatalf("the first %d bytes", n)
		}
		other := append(bytes.Clone(b[:n]), make([]byte, 40)...)
		if !bytes.Equal(ctr.Xor(c, 9, -9, other)[:n], whole[:n]) {
			t.Fatalf("the first %d bytes, with noughts behind them", n)
		}
	}
}

// P4.3: a bit that is turned in a text is turned in what it becomes, and nothing else is.
func TestByteAlone(t *testing.T) {
	c := ours(text(16, 18))
	for _, n := range []int{1, 15, 16, 17, 32, 33, 100} {
		b := text(n, 19)
		whole := ctr.Xor(c, 3, 4, b)
		for bit := range 8 * n {
			b[bit/8] ^= 1 << (bit % 8)
			whole[bit/8] ^= 1 << (bit % 8)
			if !bytes.Equal(ctr.Xor(c, 3, 4, b), whole) {
				t.Fatalf("%d bytes, the bit %d", n, bit)
			}
		}
	}
}

// R3: a text is not changed, nor what lies ahead of it and behind its end.
func TestNotChanged(t *testing.T) {
	c := ours(text(16, 20))
	for _, n := range lengths() {
		// Each time on a text of its own: a text that is turned twice in its own place looks as if it had been left alone.
		for _, end := range []int{30 + n, 100 + n} {
			whole := text(n+100, 21)
			ctr.Xor(c, 1, 2, whole[30:30+n:end])
			if !bytes.Equal(whole, text(n+100, 21)) {
				t.Errorf("%d bytes: changed", n)
			}
		}
	}
}

// R3: an answer is new memory, with its spare room too: it shares none with the text, nor with another answer.
func TestNewMemory(t *testing.T) {
	c := ours(text(16, 22))
	for _, n := range lengths() {
		b := text(n+64, 23)[:n]
		turned := want(text(16, 22), 1, 2, b)
		first, second := ctr.Xor(c, 1, 2, b), ctr.Xor(c, 1, 2, b)
		clear(first[:cap(first)])
		if !bytes.Equal(b[:cap(b)], text(n+64, 23)) || !bytes.Equal(second, turned) {
			t.Errorf("%d bytes: an answer written over", n)
		}
		clear(b[:cap(b)])
		if !bytes.Equal(second, turned) {
			t.Errorf("%d bytes: the text written over", n)
		}
	}
}

// R4: an answer hangs on its arguments alone, not on what went by, nor on other ciphers; and the cipher stays as it was.
func TestAlone(t *testing.T) {
	var ciphers []*aes.Cipher
	var keys [][]byte
	for seed := range int64(3) {
		for _, size := range sizes {
			keys = append(keys, text(size, 24+seed))
			ciphers = append(ciphers, ours(text(size, 24+seed)))
		}
	}
	for n := range 70 {
		b := text(n, 25)
		for i, c := range ciphers {
			epoch, number := n%3-1, n%5-2
			if got := ctr.Xor(c, epoch, number, b); !bytes.Equal(got, want(keys[i], epoch, number, b)) {
				t.Fatalf("key %x, %d bytes: %x", keys[i], n, got)
			}
			block, out := [16]byte(text(16, int64(n))), [16]byte{}
			theirs(keys[i]).Encrypt(out[:], block[:])
			if c.Block(block) != out {
				t.Fatalf("key %x: the cipher is another one", keys[i])
			}
		}
	}
}
