package seal_test

import (
	"bytes"
	"crypto/aes"
	"crypto/cipher"
	"crypto/hmac"
	"crypto/sha256"
	"encoding/binary"
	"encoding/hex"
	"math"
	"math/rand"
	"testing"

	"rill/api"
	"rill/seal"
)

// allowed are epochs and numbers that may be sealed under, about the ends and about those of their bytes.
var allowed = []int{0, 1, 2, 255, 256, 1<<16 - 1, 1 << 16, 1<<32 - 1, 1 << 32, 0x0102030405, 1<<39 + 1, api.MaxNumber - 1, api.MaxNumber}

// refused are those below and above them.
var refused = []int{-1, -2, -256, -1 << 32, -api.MaxNumber, -1 << 48, math.MinInt, math.MinInt + 1, api.MaxNumber + 1, api.MaxNumber + 2, 2 * api.MaxNumber, 1<<41 + 7, 1<<48 - 1, 1 << 48, 1<<48 + 1, 1 << 62, math.MaxInt}

// keyLengths are lengths of keys about a digest's length, and about that of a key's block.
var keyLengths = []int{0, 1, 15, 16, 17, 31, 32, 33, 63, 64, 65, 128, 200}

// lengths are those of heads and texts about the ends of the cipher's blocks and of the digest's rows.
var lengths = []int{0, 1, 2, 7, 8, 9, 15, 16, 17, 31, 32, 33, 39, 40, 41, 55, 56, 63, 64, 65, 127, 128, 129, 300}

// text are bytes of all kinds.
func text(n int, seed int64) []byte {
	b := make([]byte, n)
	rand.New(rand.NewSource(seed)).Read(b)
	return b
}

// of is the sum under a key as the library of Go has it.
func of(key []byte, parts ...[]byte) []byte {
	h := hmac.New(sha256.New, key)
	for _, p := range parts {
		h.Write(p)
	}
	return h.Sum(nil)
}

// eight is a number as eight bytes, the highest first.
func eight(n int) []byte { return binary.BigEndian.AppendUint64(nil, uint64(n)) }

// turned are bytes turned under a box's first key, whatever the epoch and the number are.
func turned(key []byte, epoch, number int, b []byte) []byte {
	c, err := aes.NewCipher(of(key, []byte("encrypt"))[:16])
	if err != nil {
		panic(err)
	}
	start := append(eight(epoch)[2:], eight(number)[2:]...)
	to := make([]byte, len(b))
	cipher.NewCTR(c, append(start, 0, 0, 0, 0)).XORKeyStream(to, b)
	return to
}

// tagged are turned bytes and their tag behind them, whatever the epoch and the number are.
func tagged(key []byte, epoch, number int, head, b []byte) []byte {
	tag := of(of(key, []byte("authenticate")), eight(len(head)), head, eight(epoch), eight(number), b)
	return append(bytes.Clone(b), tag...)
}

// want is what P5.2 words, by the library of Go.
func want(key []byte, epoch, number int, head, plain []byte) []byte {
	return tagged(key, epoch, number, head, turned(key, epoch, number, plain))
}

// opens tells of a call of Open that does not answer a text.
func opens(t *testing.T, x api.Crypt, epoch, number int, head, sealed, plain []byte) {
	t.Helper()
	if b, ok := x.Open(epoch, number, head, sealed); !ok || !bytes.Equal(b, plain) {
		t.Errorf("Open(%d, %d, %x, %x): %x, %v, not %x", epoch, number, head, sealed, b, ok, plain)
	}
}

// refuses tells of a call of Open that does not answer none and false.
func refuses(t *testing.T, x api.Crypt, epoch, number int, head, sealed []byte) {
	t.Helper()
	if b, ok := x.Open(epoch, number, head, sealed); ok || len(b) > 0 {
		t.Errorf("Open(%d, %d, %x, %x): %x, %v", epoch, number, head, sealed, b, ok)
	}
}

// The chapter's examples.
func TestExamples(t *testing.T) {
	var x api.Crypt = seal.New([]byte("key"))
	if s := x.Seal(1, 2, nil, nil); len(s) != 32 {
		t.Errorf("none: %x", s)
	}
	h, p := []byte("head"), []byte("plain")
	if a, b := x.Seal(-1, 2, h, p), x.Seal(1, 1<<40+1, h, p); len(a) > 0 || len(b) > 0 {
		t.Errorf("numbers: %x, %x", a, b)
	}
	s := x.Seal(1, 2, h, p)
	opens(t, x, 1, 2, h, s, p)
	refuses(t, x, 1, 3, h, s)
	refuses(t, x, 1, 2, h, s[:31])
	refuses(t, x, 1, 2, nil, x.Seal(1, 2, nil, nil)[:31])
	if x.Sum([]byte("abc")) != sha256.Sum256([]byte("abc")) {
		t.Error("Sum")
	}
}

// P5.2: texts that another program has sealed (openssl's cipher, Python's sums).
func TestOtherProgram(t *testing.T) {
	x := seal.New([]byte("the key"))
	for _, c := range []struct {
		epoch, number int
		head, plain   string
		sealed        string
	}{
		{3, 4, "head", "a plain text of some bytes", "fa58dee2ecee965498b5cb4667993449644183687a1d88c3d59872a06e648ab63781a98f6f18e749ee3512fb53437a2b39c0f41090a5b3f65aaf"},
		{1, 2, "", "", "c4081ce3fd482212540818f3f8d1f1155e06123ff1a9317ed956015aca6da7fc"},
		{1 << 40, 1 << 40, "h", "xxxxxxxxxxxxxxxxx", "ad810c779eecc173a649d491f5c0615ca557e8647491450a7ba471dff4866647b560cdadf78390a07b30607046386f7f38"},
	} {
		s := x.Seal(c.epoch, c.number, []byte(c.head), []byte(c.plain))
		if hex.EncodeToString(s) != c.sealed {
			t.Errorf("%d, %d, %q, %q: %x", c.epoch, c.number, c.head, c.plain, s)
		}
		opens(t, x, c.epoch, c.number, []byte(c.head), s, []byte(c.plain))
	}
}

// P5.1: keys of all lengths, none among them, whatever becomes of them later.
func TestKeys(t *testing.T) {
	head, plain := text(17, 1), text(50, 2)
	for n := range 201 {
		for _, key := range [][]byte{text(n, 3), make([]byte, n), bytes.Repeat([]byte{0xff}, n), text(n+70, 4)[:n]} {
			first := bytes.Clone(key)
			x := seal.New(key)
			for range 2 {
				s := x.Seal(5, 6, head, plain)
				if !bytes.Equal(s, want(first, 5, 6, head, plain)) {
					t.Fatalf("key %x: %x", first, s)
				}
				opens(t, x, 5, 6, head, s, plain)
				clear(key[:cap(key)])
			}
		}
	}
}

// P5.1: no key is nil or empty: they are one, and one with noughts (P2.4).
func TestNoKey(t *testing.T) {
	s := want(nil, 1, 2, text(3, 5), text(4, 6))
	for _, key := range [][]byte{nil, {}, text(20, 7)[:0], make([]byte, 1), make([]byte, 64)} {
		x := seal.New(key)
		if got := x.Seal(1, 2, text(3, 5), text(4, 6)); !bytes.Equal(got, s) {
			t.Errorf("%x: %x", key, got)
		}
		opens(t, x, 1, 2, text(3, 5), s, text(4, 6))
	}
	if bytes.Equal(seal.New(make([]byte, 65)).Seal(1, 2, text(3, 5), text(4, 6)), s) {
		t.Error("65 noughts are as no key")
	}
}

// P5.2: heads and texts of lengths about all ends, under keys of lengths about all ends.
func TestSeal(t *testing.T) {
	for _, k := range keyLengths {
		key := text(k, 8)
		x := seal.New(key)
		for _, h := range lengths {
			for _, n := range lengths {
				head, plain := text(h, 9), text(n, 10)
				s := x.Seal(0x0102030405, 0x060708090a, head, plain)
				if !bytes.Equal(s, want(key, 0x0102030405, 0x060708090a, head, plain)) {
					t.Fatalf("key of %d, head of %d, %d bytes: %x", k, h, n, s)
				}
			}
		}
	}
}

// P5.2: noughts, and bytes of which all bits are 1.
func TestSealPlain(t *testing.T) {
	key := text(32, 11)
	x := seal.New(key)
	for _, n := range append([]int{api.BlockSize, api.HeadSize, api.MaxPlain, api.SectorSize, 1<<16 + 5}, lengths...) {
		for _, head := range [][]byte{nil, make([]byte, 17), bytes.Repeat([]byte{0xff}, 17)} {
			for _, plain := range [][]byte{make([]byte, n), bytes.Repeat([]byte{0xff}, n), text(n, 12)} {
				s := x.Seal(7, 8, head, plain)
				if !bytes.Equal(s, want(key, 7, 8, head, plain)) {
					t.Fatalf("%d bytes, head %x", n, head)
				}
				opens(t, x, 7, 8, head, s, plain)
			}
		}
	}
}

// P5.2, P5.3: a list may be nil or empty: they are one.
func TestNone(t *testing.T) {
	key := text(9, 13)
	x := seal.New(key)
	none := [][]byte{nil, {}, make([]byte, 0, 50), text(50, 14)[:0], text(50, 14)[50:]}
	for i, head := range none {
		for k, plain := range none {
			s := x.Seal(0, 0, head, plain)
			if !bytes.Equal(s, want(key, 0, 0, nil, nil)) {
				t.Errorf("%d, %d: %x", i, k, s)
			}
			opens(t, x, 0, 0, none[k], s, nil)
			refuses(t, x, 0, 0, head, plain)
		}
		if !bytes.Equal(x.Seal(0, 0, head, text(20, 15)), want(key, 0, 0, nil, text(20, 15))) {
			t.Error("head", i)
		}
		if !bytes.Equal(x.Seal(0, 0, text(20, 15), head), want(key, 0, 0, text(20, 15), nil)) {
			t.Error("plain", i)
		}
	}
}

// P5.2, P5.3: epochs and numbers that may be, each with each.
func TestNumbers(t *testing.T) {
	key, head, plain := text(16, 16), text(17, 17), text(33, 18)
	x := seal.New(key)
	seen := map[string]bool{}
	for _, epoch := range allowed {
		for _, number := range allowed {
			s := x.Seal(epoch, number, head, plain)
			if !bytes.Equal(s, want(key, epoch, number, head, plain)) || seen[string(s)] {
				t.Errorf("%d, %d: %x", epoch, number, s)
			}
			seen[string(s)] = true
			opens(t, x, epoch, number, head, s, plain)
		}
	}
}

// P5.2: none, under an epoch or a number below 0 or above MaxNumber.
func TestSealRefused(t *testing.T) {
	x := seal.New(text(16, 19))
	for _, plain := range [][]byte{nil, text(1, 20), text(100, 20)} {
		for _, bad := range refused {
			for _, n := range append(allowed, refused...) {
				if a, b := x.Seal(bad, n, text(5, 21), plain), x.Seal(n, bad, text(5, 21), plain); a != nil || b != nil {
					t.Errorf("%d, %d: %x, %x", bad, n, a, b)
				}
			}
		}
	}
}

// P5.3: none and false, under an epoch or a number below 0 or above MaxNumber, though the tag is right.
func TestOpenRefused(t *testing.T) {
	key, head := text(16, 22), text(5, 23)
	x := seal.New(key)
	for _, b := range [][]byte{nil, text(1, 24), text(100, 24)} {
		for _, bad := range refused {
			for _, n := range append(allowed, refused...) {
				refuses(t, x, bad, n, head, tagged(key, bad, n, head, b))
				refuses(t, x, n, bad, head, tagged(key, n, bad, head, b))
				refuses(t, x, bad, n, nil, nil)
				refuses(t, x, n, bad, head, text(31, 25))
			}
		}
	}
}

// P5.3: fewer than 32 bytes are none, whatever they are.
func TestOpenShort(t *testing.T) {
	key := text(16, 26)
	x := seal.New(key)
	whole := want(key, 1, 2, nil, nil)
	for n := range 32 {
		for _, b := range [][]byte{whole[:n], whole[32-n:], make([]byte, n), text(n, 27)} {
			refuses(t, x, 1, 2, nil, b)
			refuses(t, x, 1, 2, whole, b)
		}
	}
}

// P5.3: just 32 bytes: the tag of no bytes, or no tag.
func TestOpenTagAlone(t *testing.T) {
	key := text(16, 28)
	x := seal.New(key)
	for _, h := range lengths {
		head := text(h, 29)
		s := want(key, 1, 2, head, nil)
		opens(t, x, 1, 2, head, s, nil)
		for bit := range 8 * len(s) {
			s[bit/8] ^= 1 << (bit % 8)
			refuses(t, x, 1, 2, head, s)
			s[bit/8] ^= 1 << (bit % 8)
		}
		refuses(t, x, 1, 2, head, make([]byte, 32))
		refuses(t, x, 1, 2, head, bytes.Repeat([]byte{0xff}, 32))
		refuses(t, x, 1, 2, head, text(32, 30))
	}
}

// P5.3: any bytes with their tag behind them are opened: turned back.
func TestOpenTagged(t *testing.T) {
	for _, k := range keyLengths {
		key := text(k, 31)
		x := seal.New(key)
		for _, n := range lengths {
			for _, b := range [][]byte{text(n, 32), make([]byte, n), bytes.Repeat([]byte{0xff}, n)} {
				opens(t, x, 9, 10, text(17, 33), tagged(key, 9, 10, text(17, 33), b), turned(key, 9, 10, b))
			}
		}
	}
}

// P5.3: each bit of what was sealed counts, and each bit of the head.
func TestOpenBits(t *testing.T) {
	key := text(16, 34)
	x := seal.New(key)
	for _, n := range []int{1, 15, 16, 17, 32, 64, 100} {
		head := text(n, 35)
		s := x.Seal(11, 12, head, text(n, 36))
		for _, b := range [][]byte{s, head} {
			for bit := range 8 * len(b) {
				b[bit/8] ^= 1 << (bit % 8)
				refuses(t, x, 11, 12, head, s)
				b[bit/8] ^= 1 << (bit % 8)
			}
			for i := range b {
				for by := range 255 {
					b[i] += byte(by + 1)
					refuses(t, x, 11, 12, head, s)
					b[i] -= byte(by + 1)
				}
			}
		}
		opens(t, x, 11, 12, head, s, text(n, 36))
	}
}

// P5.3: each byte cut off or put in, at either end and midway, and two that changed places.
func TestOpenCut(t *testing.T) {
	key, head := text(16, 37), text(17, 38)
	x := seal.New(key)
	for _, n := range []int{0, 1, 16, 33, 70} {
		s := x.Seal(13, 14, head, text(n, 39))
		for i := range s {
			refuses(t, x, 13, 14, head, s[:i])
			refuses(t, x, 13, 14, head, s[i+1:])
			refuses(t, x, 13, 14, head, append(bytes.Clone(s[:i]), s[i+1:]...))
			refuses(t, x, 13, 14, head, append(append(bytes.Clone(s[:i]), 0), s[i:]...))
			if other := (i + 1) % len(s); s[i] != s[other] {
				b := bytes.Clone(s)
				b[i], b[other] = b[other], b[i]
				refuses(t, x, 13, 14, head, b)
			}
		}
		refuses(t, x, 13, 14, head, append(bytes.Clone(s), 0))
		refuses(t, x, 13, 14, head, append(bytes.Clone(s), s...))
		refuses(t, x, 13, 14, head, append(make([]byte, 1), s...))
		opens(t, x, 13, 14, head, append(s, 0)[:n+32], text(n, 39))
	}
}

// P5.3: under another epoch or another number, that may be or not, nothing is opened.
func TestOpenNumbers(t *testing.T) {
	key, head, plain := text(16, 40), text(17, 41), text(20, 42)
	x := seal.New(key)
	for _, epoch := range allowed {
		for _, number := range allowed {
			s := x.Seal(epoch, number, head, plain)
			if epoch != number {
				refuses(t, x, number, epoch, head, s)
			}
			for bit := range 64 {
				refuses(t, x, epoch^int(uint64(1)<<bit), number, head, s)
				refuses(t, x, epoch, number^int(uint64(1)<<bit), head, s)
			}
			for _, near := range []int{-256, -2, -1, 1, 2, 256, 1 << 48} {
				refuses(t, x, epoch+near, number, head, s)
				refuses(t, x, epoch, number+near, head, s)
				refuses(t, x, epoch+near, number-near, head, s)
			}
		}
	}
}

// P5.3: where the head ends and what is behind it begins counts: none of their bytes can go over to the other.
func TestOpenHeads(t *testing.T) {
	key, plain := text(16, 43), text(40, 44)
	x := seal.New(key)
	head := text(30, 45)
	s := x.Seal(15, 16, head, plain)
	for n := range 30 {
		refuses(t, x, 15, 16, head[:n], s)
		refuses(t, x, 15, 16, head[n+1:], s)
	}
	for n := range 70 {
		refuses(t, x, 15, 16, append(bytes.Clone(head), make([]byte, n+1)...), s)
		refuses(t, x, 15, 16, append(make([]byte, n+1), head...), s)
	}
	// The tag of a head, an epoch, a number and bytes is taken for that of a longer head that has these in it, and of a shorter one.
	body, tag := s[:40], s[40:]
	behind := bytes.Join([][]byte{head, eight(15), eight(16), body}, nil)
	for n := range len(behind) - 15 {
		epoch, number := int(binary.BigEndian.Uint64(behind[n:])), int(binary.BigEndian.Uint64(behind[n+8:]))
		if n != 30 {
			refuses(t, x, epoch, number, behind[:n], append(bytes.Clone(behind[n+16:]), tag...))
		}
	}
	numbers := append(eight(0), eight(0)...)
	long := bytes.Repeat(numbers, 3)
	s = x.Seal(0, 0, long, nil)
	for n := 0; n < len(long); n++ {
		refuses(t, x, 0, 0, long[:n], append(bytes.Clone(long[n:]), s...))
	}
}

// P5.3: under another key nothing is opened, also where it is near.
func TestOpenKeys(t *testing.T) {
	for _, k := range keyLengths {
		key := text(k, 46)
		s := seal.New(key).Seal(17, 18, text(17, 47), text(20, 48))
		for bit := range 8 * k {
			key[bit/8] ^= 1 << (bit % 8)
			refuses(t, seal.New(key), 17, 18, text(17, 47), s)
			key[bit/8] ^= 1 << (bit % 8)
		}
		refuses(t, seal.New(append(bytes.Clone(key), 1)), 17, 18, text(17, 47), s)
		refuses(t, seal.New(append([]byte{1}, key...)), 17, 18, text(17, 47), s)
		if k > 0 {
			refuses(t, seal.New(key[1:]), 17, 18, text(17, 47), s)
			refuses(t, seal.New(key[:k-1]), 17, 18, text(17, 47), s)
			refuses(t, seal.New(nil), 17, 18, text(17, 47), s)
		}
		opens(t, seal.New(key), 17, 18, text(17, 47), s, text(20, 48))
	}
}

// P5.3: sums that are near the tag are none: of the plain text, under another key, of parts in another order, without one of them.
func TestOpenOtherTags(t *testing.T) {
	key, head, plain := text(16, 49), text(17, 50), text(40, 51)
	x := seal.New(key)
	b := turned(key, 19, 20, plain)
	first, second := of(key, []byte("encrypt")), of(key, []byte("authenticate"))
	size, epoch, number := eight(17), eight(19), eight(20)
	plainSum := sha256.Sum256(b)
	for i, tag := range [][]byte{
		of(second, size, head, epoch, number, plain),
		of(second, size, head, number, epoch, b),
		of(second, size, epoch, number, head, b),
		of(second, epoch, number, size, head, b),
		of(second, head, epoch, number, b),
		of(second, size, head, epoch, b),
		of(second, size, head, number, b),
		of(second, size, head, epoch, number),
		of(second, size, head, b, epoch, number),
		of(second, eight(40), head, epoch, number, b),
		of(second[:16], size, head, epoch, number, b),
		of(first, size, head, epoch, number, b),
		of(first[:16], size, head, epoch, number, b),
		of(key, size, head, epoch, number, b),
		of(second, b),
		plainSum[:],
	} {
		if got, ok := x.Open(19, 20, head, append(bytes.Clone(b), tag...)); ok || len(got) > 0 {
			t.Errorf("%d: %x", i, got)
		}
	}
	opens(t, x, 19, 20, head, append(b, of(second, size, head, epoch, number, b)...), plain)
}

// P5.4: digests, whatever the key is.
func TestSum(t *testing.T) {
	for _, k := range keyLengths {
		var x api.Crypt = seal.New(text(k, 52))
		for n := range 150 {
			for _, b := range [][]byte{text(n, 53), make([]byte, n), text(n+9, 54)[:n]} {
				if x.Sum(b) != sha256.Sum256(b) {
					t.Errorf("key of %d: %x", k, b)
				}
			}
		}
		if x.Sum(nil) != sha256.Sum256(nil) || x.Sum(text(1<<16+3, 55)) != sha256.Sum256(text(1<<16+3, 55)) {
			t.Error("none, or many")
		}
	}
}

// P5.5, P5.6: what was sealed is opened, and what is opened is sealed to the same, by another box of that key too.
func TestBack(t *testing.T) {
	r := rand.New(rand.NewSource(56))
	for range 2000 {
		key, head, plain := text(r.Intn(100), r.Int63()), text(r.Intn(100), r.Int63()), text(r.Intn(200), r.Int63())
		epoch, number := r.Intn(api.MaxNumber+1), r.Intn(api.MaxNumber+1)
		x, y := seal.New(key), seal.New(key)
		s := x.Seal(epoch, number, head, plain)
		opens(t, x, epoch, number, head, s, plain)
		opens(t, y, epoch, number, head, s, plain)
		laid := tagged(key, epoch, number, head, plain)
		b, ok := x.Open(epoch, number, head, laid)
		if !ok || !bytes.Equal(y.Seal(epoch, number, head, b), laid) {
			t.Fatalf("key %x, %d, %d, head %x: %x, %v", key, epoch, number, head, b, ok)
		}
	}
}

// P5.3, P5.6: what chance lays is not opened; were it, it would be what is sealed so.
func TestChance(t *testing.T) {
	r := rand.New(rand.NewSource(57))
	x := seal.New(text(16, 58))
	for range 5000 {
		epoch, number := int(r.Uint64())>>r.Intn(64), int(r.Uint64())>>r.Intn(64)
		refuses(t, x, epoch, number, text(r.Intn(40), r.Int63()), text(r.Intn(120), r.Int63()))
	}
}

// R3: what is handed in is not changed, nor what lies ahead of it and behind its end; they may be one list.
func TestNotChanged(t *testing.T) {
	key := text(40, 59)
	x := seal.New(key[:16])
	for _, n := range lengths {
		for _, room := range []int{0, 20, 60} {
			// Each call has bytes of its own: what is turned twice in its own place looks as if it had been left alone.
			heads, plains := text(n+100, 60), text(n+100, 61)
			x.Seal(1, 2, heads[30:30+n:30+n+room], plains[30:30+n:30+n+room])
			x.Sum(plains[30 : 30+n : 30+n+room])
			if !bytes.Equal(heads, text(n+100, 60)) || !bytes.Equal(plains, text(n+100, 61)) {
				t.Errorf("%d bytes: Seal changed", n)
			}
			sealed := append(text(30, 62), want(key[:16], 1, 2, heads[30:30+n], plains[30:30+n])...)
			sealed = append(sealed, text(60, 63)...)
			first, end := bytes.Clone(sealed), 30+n+32
			if _, ok := x.Open(1, 2, heads[30:30+n:30+n+room], sealed[30:end:end+room]); !ok || !bytes.Equal(sealed, first) {
				t.Errorf("%d bytes: Open %v changed", n, ok)
			}
			x.Open(2, 1, heads[30:30+n:30+n+room], sealed[30:end:end+room])
			if !bytes.Equal(sealed, first) || !bytes.Equal(heads, text(n+100, 60)) {
				t.Errorf("%d bytes: Open changed", n)
			}
			whole := text(2*n+100, 64)
			head, plain := whole[:n+9], whole[n/2:n+n/2]
			if s := x.Seal(1, 2, head, plain); !bytes.Equal(whole, text(2*n+100, 64)) || !bytes.Equal(s, want(key[:16], 1, 2, head, plain)) {
				t.Errorf("%d bytes: one list", n)
			}
		}
	}
	if !bytes.Equal(key, text(40, 59)) {
		t.Error("the key")
	}
}

// R3: an answer is new memory, with its spare room too, and nothing that was handed in or out is kept.
func TestNewMemory(t *testing.T) {
	key := text(16, 65)
	x := seal.New(key)
	for _, n := range lengths {
		head, plain := text(n+64, 66)[:n], text(n+64, 67)[:n]
		laid := want(key, 1, 2, head, plain)
		first, second := x.Seal(1, 2, head, plain), x.Seal(1, 2, head, plain)
		clear(first[:cap(first)])
		if !bytes.Equal(second, laid) || !bytes.Equal(head[:n+64], text(n+64, 66)) || !bytes.Equal(plain[:n+64], text(n+64, 67)) {
			t.Errorf("%d bytes: what Seal answered written over", n)
		}
		clear(head[:n+64])
		clear(plain[:n+64])
		if !bytes.Equal(second, laid) || !bytes.Equal(x.Seal(1, 2, text(n, 66), text(n, 67)), laid) {
			t.Errorf("%d bytes: what Seal was given written over", n)
		}
		sealed := append(bytes.Clone(laid), text(64, 68)...)[:n+32]
		one, _ := x.Open(1, 2, text(n, 66), sealed)
		two, _ := x.Open(1, 2, text(n, 66), sealed)
		clear(one[:cap(one)])
		if !bytes.Equal(two, text(n, 67)) || !bytes.Equal(sealed[:n+96], append(bytes.Clone(laid), text(64, 68)...)) {
			t.Errorf("%d bytes: what Open answered written over", n)
		}
		clear(sealed[:n+96])
		if !bytes.Equal(two, text(n, 67)) {
			t.Errorf("%d bytes: what Open was given written over", n)
		}
		opens(t, x, 1, 2, text(n, 66), laid, text(n, 67))
	}
}

// R4: an answer hangs on the key and the arguments alone, not on what went by, nor on other boxes.
func TestAlone(t *testing.T) {
	var boxes []api.Crypt
	for _, k := range keyLengths {
		boxes = append(boxes, seal.New(text(k, 69)))
	}
	var last [][]byte
	for n := range 60 {
		head, plain := text(n%19, 70), text(n, 71)
		var now [][]byte
		for i, x := range boxes {
			key := text(keyLengths[i], 69)
			s := x.Seal(n%3, n%5, head, plain)
			if !bytes.Equal(s, want(key, n%3, n%5, head, plain)) {
				t.Fatalf("key of %d, %d bytes: %x", keyLengths[i], n, s)
			}
			now = append(now, s)
			if i > 0 {
				refuses(t, x, n%3, n%5, head, now[i-1])
			}
			if n > 0 {
				opens(t, x, (n-1)%3, (n-1)%5, text((n-1)%19, 70), last[i], text(n-1, 71))
			}
			x.Seal(-1, n, head, plain)
			opens(t, x, n%3, n%5, head, s, plain)
		}
		last = now
	}
}
