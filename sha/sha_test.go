package sha

import (
	"bytes"
	"crypto/sha256"
	"encoding/hex"
	"math/rand"
	"testing"

	"rill/api"
)

// edges are lengths about the end of a row, and about where the length still fits in it.
var edges = []int{0, 1, 2, 3, 4, 54, 55, 56, 57, 63, 64, 65, 118, 119, 120, 121, 127, 128, 129, 191, 192, 193, 1024}

// text is n bytes, each unlike its neighbours.
func text(n int) []byte {
	b := make([]byte, n)
	for i := range b {
		b[i] = byte(i*151 + i/256 + 7)
	}
	return b
}

func want(b []byte) api.Sum {
	return api.Sum(sha256.Sum256(b))
}

// The chapter's examples.
func TestExamples(t *testing.T) {
	for _, x := range []struct{ text, digest string }{
		{"", "e3b0c44298fc1c149afbf4c8996fb92427ae41e4649b934ca495991b7852b855"},
		{"abc", "ba7816bf8f01cfea414140de5dae2223b00361a396177a9cb410ff61f20015ad"},
		{"abcdbcdecdefdefgefghfghighijhijkijkljklmklmnlmnomnopnopq", "248d6a61d20638b8e5c026930c3e6039a33ce45964ff2167f6ecedd419db06c1"},
	} {
		sum := Of([]byte(x.text))
		if hex.EncodeToString(sum[:]) != x.digest {
			t.Errorf("%q: %x", x.text, sum)
		}
	}
}

// P1.1: all lengths of some rows, and bytes of all kinds.
func TestOf(t *testing.T) {
	if Of(nil) != want(nil) || Of([]byte{}) != want(nil) {
		t.Error("no bytes")
	}
	for n := range 400 {
		for _, b := range [][]byte{text(n), make([]byte, n), bytes.Repeat([]byte{0xff}, n)} {
			if Of(b) != want(b) {
				t.Errorf("%d bytes: %x", n, b)
			}
		}
	}
	b := text(1<<20 + 17)
	if Of(b) != want(b) {
		t.Error("many rows")
	}
}

// P1.1: each bit of a text tells.
func TestOfEachBit(t *testing.T) {
	b := text(130)
	seen := map[api.Sum]bool{Of(b): true}
	for i := range 8 * len(b) {
		b[i/8] ^= 1 << (i % 8)
		sum := Of(b)
		if sum != want(b) || seen[sum] {
			t.Error("bit", i)
		}
		seen[sum] = true
		b[i/8] ^= 1 << (i % 8)
	}
}

// P1.1: so long that its bits are not told by 32 bits.
func TestLong(t *testing.T) {
	piece := text(1 << 20)
	h, other := New(), sha256.New()
	for range 1<<9 + 1 {
		h.Add(piece)
		other.Write(piece)
	}
	h.Add(piece[:5])
	other.Write(piece[:5])
	if sum := h.Sum(); !bytes.Equal(sum[:], other.Sum(nil)) {
		t.Errorf("%x", sum)
	}
}

// P1.2: a hash by which no bytes have gone.
func TestNew(t *testing.T) {
	if New().Sum() != want(nil) {
		t.Error("new")
	}
	h := New()
	h.Add(nil)
	h.Add([]byte{})
	if h.Sum() != want(nil) {
		t.Error("empty pieces alone")
	}
}

// P1.2: Sum between two Adds, once and twice, changes nothing.
func TestSumBetween(t *testing.T) {
	b := text(200)
	h := New()
	for i := range b {
		if h.Sum() != want(b[:i]) || h.Sum() != want(b[:i]) {
			t.Error("ahead of byte", i)
		}
		h.Add(b[i : i+1])
	}
	if h.Sum() != want(b) {
		t.Error("all")
	}
}

// P1.2: hashes that are under way at one time do not touch each other.
func TestTwoHashes(t *testing.T) {
	one, two := New(), New()
	a, b := text(150), make([]byte, 150)
	for i := range a {
		one.Add(a[i : i+1])
		two.Add(b[i : i+1])
		if one.Sum() != want(a[:i+1]) || two.Sum() != want(b[:i+1]) {
			t.Error("at", i)
		}
	}
	if New().Sum() != want(nil) {
		t.Error("a new one behind them")
	}
}

// P1.3: two cuts anywhere, so that empty pieces are among them.
func TestPieces(t *testing.T) {
	for _, n := range edges {
		if n > 200 {
			continue
		}
		b := text(n)
		sum := want(b)
		for i := range n + 1 {
			for k := i; k <= n; k++ {
				h := New()
				h.Add(b[:i])
				h.Add(b[i:k])
				h.Add(b[k:])
				if h.Sum() != sum {
					t.Fatal("cut", n, i, k)
				}
			}
		}
	}
}

// P1.3: pieces of one length all through, with empty ones and Sums between.
func TestEvenPieces(t *testing.T) {
	for _, n := range edges {
		b := text(n)
		for _, size := range []int{1, 7, 31, 32, 33, 63, 64, 65, 127, 128, 129, 500} {
			h := New()
			for rest := b; len(rest) > 0; {
				k := min(size, len(rest))
				h.Add(rest[:k])
				h.Add(nil)
				h.Sum()
				rest = rest[k:]
			}
			if h.Sum() != want(b) {
				t.Error("pieces", n, size)
			}
		}
	}
}

// P1.3: many cuts, by chance but always the same.
func TestManyPieces(t *testing.T) {
	chance := rand.New(rand.NewSource(1))
	for range 300 {
		b := text(chance.Intn(1500))
		h := New()
		for rest := b; len(rest) > 0; {
			k := chance.Intn(min(len(rest), 150) + 1)
			h.Add(rest[:k])
			rest = rest[k:]
		}
		if h.Sum() != want(b) {
			t.Fatal("pieces of", len(b))
		}
	}
}

// R3: what is handed in is not kept: it may be written over behind the call.
func TestNotKept(t *testing.T) {
	for _, n := range edges {
		b := text(n)
		sum := want(b)
		for k := range n + 1 {
			h := New()
			piece := make([]byte, n)
			copy(piece, b[:k])
			h.Add(piece[:k])
			clear(piece)
			copy(piece, b[k:])
			h.Add(piece[:n-k])
			clear(piece)
			if h.Sum() != sum {
				t.Fatal("written over", n, k)
			}
		}
	}
}

// R3: what is handed in is not changed, nor what lies behind its end.
func TestNotChanged(t *testing.T) {
	for _, n := range edges {
		whole := text(n + 100)
		b := whole[:n]
		Of(b)
		h := New()
		h.Add(b)
		h.Sum()
		h.Add(b)
		h.Sum()
		if !bytes.Equal(whole, text(n+100)) {
			t.Error("changed", n)
		}
	}
}

// R3: an answer that is written over changes no other.
func TestAnswerIsNew(t *testing.T) {
	h := New()
	h.Add(text(70))
	sum := h.Sum()
	clear(sum[:])
	if h.Sum() != want(text(70)) {
		t.Error("shared")
	}
}
