package aes_test

import (
	"bytes"
	goaes "crypto/aes"
	"encoding/hex"
	"math/rand"
	"testing"

	"rill/aes"
	"rill/api"
)

// sizes are the lengths that a key may have.
var sizes = []int{16, 24, 32}

// counted are the bytes 0, 1, 2 and so on.
func counted(n int) []byte {
	b := make([]byte, n)
	for i := range b {
		b[i] = byte(i)
	}
	return b
}

// cipher is that of a key that may be one.
func cipher(t *testing.T, key []byte) *aes.Cipher {
	t.Helper()
	c, e := aes.New(key)
	if e != api.OK || c == nil {
		t.Fatalf("key of %d: error %d", len(key), e)
	}
	return c
}

// want is the block turned as the library of Go has it.
func want(key []byte, b [16]byte) [16]byte {
	c, err := goaes.NewCipher(key)
	if err != nil {
		panic(err)
	}
	var to [16]byte
	c.Encrypt(to[:], b[:])
	return to
}

// unhex are the bytes of a text.
func unhex(text string) []byte {
	b, err := hex.DecodeString(text)
	if err != nil {
		panic(err)
	}
	return b
}

// The chapter's examples, and the others of FIPS 197 and SP 800-38A.
func TestPublished(t *testing.T) {
	key192 := "8e73b0f7da0e6452c810f32b809079e562f8ead2522c6b7b"
	key256 := "603deb1015ca71be2b73aef0857d77811f352c073b6108d72d9810a30914dff4"
	key128 := "2b7e151628aed2a6abf7158809cf4f3c"
	for _, x := range []struct{ key, block, turned string }{
		{"000102030405060708090a0b0c0d0e0f", "00112233445566778899aabbccddeeff", "69c4e0d86a7b0430d8cdb78070b4c55a"},
		{"000102030405060708090a0b0c0d0e0f1011121314151617", "00112233445566778899aabbccddeeff", "dda97ca4864cdfe06eaf70a0ec0d7191"},
		{"000102030405060708090a0b0c0d0e0f101112131415161718191a1b1c1d1e1f", "00112233445566778899aabbccddeeff", "8ea2b7ca516745bfeafc49904b496089"},
		{key128, "3243f6a8885a308d313198a2e0370734", "3925841d02dc09fbdc118597196a0b32"},
		{key128, "6bc1bee22e409f96e93d7e117393172a", "3ad77bb40d7a3660a89ecaf32466ef97"},
		{key128, "ae2d8a571e03ac9c9eb76fac45af8e51", "f5d3d58503b9699de785895a96fdbaaf"},
		{key128, "30c81c46a35ce411e5fbc1191a0a52ef", "43b1cd7f598ece23881b00e3ed030688"},
		{key128, "f69f2445df4f9b17ad2b417be66c3710", "7b0c785e27e8ad3f8223207104725dd4"},
		{key192, "6bc1bee22e409f96e93d7e117393172a", "bd334f1d6e45f25ff712a214571fa5cc"},
		{key192, "ae2d8a571e03ac9c9eb76fac45af8e51", "974104846d0ad3ad7734ecb3ecee4eef"},
		{key192, "30c81c46a35ce411e5fbc1191a0a52ef", "ef7afd2270e2e60adce0ba2face6444e"},
		{key192, "f69f2445df4f9b17ad2b417be66c3710", "9a4b41ba738d6c72fb16691603c18e0e"},
		{key256, "6bc1bee22e409f96e93d7e117393172a", "f3eed1bdb5d2a03c064b5a7e3db181f8"},
		{key256, "ae2d8a571e03ac9c9eb76fac45af8e51", "591ccb10d410ed26dc5ba74a31362870"},
		{key256, "30c81c46a35ce411e5fbc1191a0a52ef", "b6ed21b99ca6f4f9f153e7b1beafed1d"},
		{key256, "f69f2445df4f9b17ad2b417be66c3710", "23304b7a39f9f3ff067d8d8f9e24ecc7"},
	} {
		got := cipher(t, unhex(x.key)).Block([16]byte(unhex(x.block)))
		if hex.EncodeToString(got[:]) != x.turned {
			t.Errorf("key %s, block %s: %x", x.key, x.block, got)
		}
	}
}

// P3.1: a key has 16, 24 or 32 bytes, and no other number of them, whatever room lies behind them.
func TestNewSizes(t *testing.T) {
	for n := range 300 {
		may := n == 16 || n == 24 || n == 32
		for _, key := range [][]byte{counted(n), make([]byte, n), make([]byte, n, n+64), counted(400)[:n], bytes.Repeat([]byte{0xff}, n)} {
			c, e := aes.New(key)
			if may && (c == nil || e != api.OK) {
				t.Errorf("key of %d: error %d", n, e)
			}
			if !may && (c != nil || e != api.ErrArg) {
				t.Errorf("key of %d: error %d, cipher %v", n, e, c)
			}
		}
	}
	for _, n := range []int{1 << 16, 1<<16 + 16, 1<<16 + 32, 1 << 20} {
		if c, e := aes.New(make([]byte, n)); c != nil || e != api.ErrArg {
			t.Errorf("key of %d: error %d, cipher %v", n, e, c)
		}
	}
}

// P3.1: no key at all, nil or empty, is refused.
func TestNewNone(t *testing.T) {
	for _, key := range [][]byte{nil, {}, make([]byte, 0, 16), counted(32)[:0]} {
		if c, e := aes.New(key); c != nil || e != api.ErrArg {
			t.Errorf("none, nil %v: error %d, cipher %v", key == nil, e, c)
		}
	}
}

// P3.1: what becomes of the key later makes no difference; and the key, and the room behind it, stay as they were.
func TestNewKeepsNoKey(t *testing.T) {
	for _, n := range sizes {
		whole := counted(n + 40)
		key := whole[:n]
		b := [16]byte(counted(16))
		turned := want(key, b)
		c := cipher(t, key)
		if !bytes.Equal(whole, counted(n+40)) {
			t.Errorf("key of %d: changed: %x", n, whole)
		}
		if c.Block(b) != turned {
			t.Errorf("key of %d: %x", n, c.Block(b))
		}
		if !bytes.Equal(whole, counted(n+40)) {
			t.Errorf("key of %d: changed by Block: %x", n, whole)
		}
		for i := range whole {
			whole[i] ^= 0xff
			if c.Block(b) != turned {
				t.Fatalf("key of %d: its byte %d counts later too", n, i)
			}
		}
	}
}

// P3.2: each byte and bit of keys and blocks, for all three sizes.
func TestBlockBits(t *testing.T) {
	for _, n := range sizes {
		for _, fill := range []byte{0, 0xff, 0x80, 0x1b, 0x63} {
			base := bytes.Repeat([]byte{fill}, n)
			var block [16]byte
			for i := range block {
				block[i] = fill
			}
			for bit := range 8 * n {
				key := bytes.Clone(base)
				key[bit/8] ^= 1 << (bit % 8)
				if got := cipher(t, key).Block(block); got != want(key, block) {
					t.Fatalf("key %x, block %x: %x", key, block, got)
				}
			}
			c := cipher(t, base)
			for bit := range 128 {
				b := block
				b[bit/8] ^= 1 << (bit % 8)
				if got := c.Block(b); got != want(base, b) {
					t.Fatalf("key %x, block %x: %x", base, b, got)
				}
			}
		}
	}
}

// P3.2: each value of each byte, in the block and in the key.
func TestBlockBytes(t *testing.T) {
	for _, n := range sizes {
		key := counted(n)
		c := cipher(t, key)
		for i := range 256 {
			for at := range 16 {
				var b [16]byte
				b[at] = byte(i)
				if got := c.Block(b); got != want(key, b) {
					t.Fatalf("key %x, block %x: %x", key, b, got)
				}
			}
			for at := range n {
				other := make([]byte, n)
				other[at] = byte(i)
				b := [16]byte(counted(16))
				if got := cipher(t, other).Block(b); got != want(other, b) {
					t.Fatalf("key %x, block %x: %x", other, b, got)
				}
			}
		}
	}
}

// P3.2: keys and blocks of all kinds.
func TestBlockMany(t *testing.T) {
	r := rand.New(rand.NewSource(3))
	for _, n := range sizes {
		for range 3000 {
			key := make([]byte, n)
			r.Read(key)
			c := cipher(t, key)
			var b [16]byte
			r.Read(b[:])
			for range 4 {
				got := c.Block(b)
				if got != want(key, b) {
					t.Fatalf("key %x, block %x: %x", key, b, got)
				}
				b = got
			}
		}
	}
}

// P3.2: a block that is turned again and again.
func TestBlockAgain(t *testing.T) {
	for _, n := range sizes {
		key := counted(n)
		c := cipher(t, key)
		var b, held [16]byte
		for i := range 5000 {
			b, held = c.Block(b), want(key, held)
			if b != held {
				t.Fatalf("key of %d: the turn %d: %x", n, i, b)
			}
		}
	}
}

// P3.2: what is turned hangs on the key and the block alone, not on what went by, nor on other ciphers; the block handed in stays as it was.
func TestBlockAlone(t *testing.T) {
	var ciphers []*aes.Cipher
	var keys [][]byte
	for seed := range 4 {
		for _, n := range sizes {
			key := counted(n)
			key[n-1] = byte(seed)
			keys = append(keys, key)
			ciphers = append(ciphers, cipher(t, bytes.Clone(key)))
		}
	}
	for i := range 60 {
		for j, c := range ciphers {
			var b [16]byte
			b[i%16] = byte(i)
			in := b
			if got := c.Block(in); got != want(keys[j], b) || c.Block(in) != got {
				t.Fatalf("key %x, block %x: %x", keys[j], b, got)
			}
			if in != b {
				t.Fatalf("the block was changed: %x, %x", b, in)
			}
			if c2 := cipher(t, keys[j]); c2 == c || c2.Block(b) != want(keys[j], b) {
				t.Fatalf("key %x: not the same again", keys[j])
			}
		}
	}
}

// P3.2: a beginning of a key is no key of the same cipher: all three sizes are unlike.
func TestSizesUnlike(t *testing.T) {
	seen := map[[16]byte]int{}
	for _, n := range sizes {
		b := cipher(t, make([]byte, n)).Block([16]byte{})
		if m, ok := seen[b]; ok {
			t.Errorf("keys of %d and %d noughts: both %x", m, n, b)
		}
		seen[b] = n
	}
}

// P3.3: unlike blocks are turned into unlike ones, neighbours and others.
func TestUnlike(t *testing.T) {
	r := rand.New(rand.NewSource(33))
	for _, n := range sizes {
		key := make([]byte, n)
		r.Read(key)
		c := cipher(t, key)
		from := map[[16]byte][16]byte{}
		see := func(b [16]byte) {
			to := c.Block(b)
			if other, ok := from[to]; ok && other != b {
				t.Fatalf("key %x: %x and %x are both turned into %x", key, b, other, to)
			}
			from[to] = b
		}
		for i := range 1 << 16 {
			see([16]byte{14: byte(i >> 8), 15: byte(i)})
			see([16]byte{0: byte(i >> 8), 5: byte(i)})
		}
		for range 1 << 16 {
			var b [16]byte
			r.Read(b[:])
			see(b)
		}
	}
}

// P3.3: what was turned can be turned back, as the library of Go does it: so no two blocks become one.
func TestBack(t *testing.T) {
	r := rand.New(rand.NewSource(333))
	for _, n := range sizes {
		key := make([]byte, n)
		r.Read(key)
		c := cipher(t, key)
		back, err := goaes.NewCipher(key)
		if err != nil {
			t.Fatal(err)
		}
		for range 5000 {
			var b, again [16]byte
			r.Read(b[:])
			to := c.Block(b)
			back.Decrypt(again[:], to[:])
			if again != b {
				t.Fatalf("key %x: %x is turned into %x, and that back into %x", key, b, to, again)
			}
		}
	}
}
