package mac_test

import (
	"bytes"
	"crypto/hmac"
	"crypto/sha256"
	"encoding/hex"
	"go/ast"
	"go/parser"
	"go/token"
	"math/rand"
	"path/filepath"
	"strings"
	"testing"

	"rill/api"
	"rill/mac"
	"rill/sha"
)

// keyEdges are lengths of keys about a digest's length, and about that of a key's block.
var keyEdges = []int{0, 1, 2, 20, 31, 32, 33, 55, 56, 62, 63, 64, 65, 66, 96, 127, 128, 129, 131, 200}

// textEdges are lengths of texts about the ends of the digest's rows.
var textEdges = []int{0, 1, 2, 31, 32, 33, 55, 56, 57, 63, 64, 65, 119, 120, 127, 128, 129, 300}

// text is n bytes, each unlike its neighbours, and unlike those of another seed.
func text(n, seed int) []byte {
	b := make([]byte, n)
	for i := range b {
		b[i] = byte(i*151 + i/256 + seed*83 + 7)
	}
	return b
}

// want is the sum as the library of Go has it.
func want(key, b []byte) api.Sum {
	h := hmac.New(sha256.New, key)
	h.Write(b)
	return api.Sum(h.Sum(nil))
}

// plain is the sum as P2.1 words it, out of package sha alone.
func plain(key, b []byte) api.Sum {
	if len(key) > 64 {
		d := sha.Of(key)
		key = d[:]
	}
	inner, outer := bytes.Repeat([]byte{0x36}, 64), bytes.Repeat([]byte{0x5c}, 64)
	for i, x := range key {
		inner[i] ^= x
		outer[i] ^= x
	}
	d := sha.Of(append(inner, b...))
	return sha.Of(append(outer, d[:]...))
}

// The chapter's examples, and the others of RFC 4231.
func TestPublished(t *testing.T) {
	long := bytes.Repeat([]byte{0xaa}, 131)
	for i, x := range []struct {
		key  []byte
		text string
		sum  string // the fifth one is published cut off
	}{
		{bytes.Repeat([]byte{0x0b}, 20), "Hi There", "b0344c61d8db38535ca8afceaf0bf12b881dc200c9833da726e9376c2e32cff7"},
		{[]byte("Jefe"), "what do ya want for nothing?", "5bdcc146bf60754e6a042426089575c75a003f089d2739839dec58b964ec3843"},
		{bytes.Repeat([]byte{0xaa}, 20), strings.Repeat("\xdd", 50), "773ea91e36800e46854db8ebd09181a72959098b3ef8c122d9635514ced565fe"},
		{[]byte("\x01\x02\x03\x04\x05\x06\x07\x08\x09\x0a\x0b\x0c\x0d\x0e\x0f\x10\x11\x12\x13\x14\x15\x16\x17\x18\x19"), strings.Repeat("\xcd", 50), "82558a389a443c0ea4cc819899f2083a85f0faa3e578f8077a2e3ff46729665b"},
		{bytes.Repeat([]byte{0x0c}, 20), "Test With Truncation", "a3b6167473100ee06e0c796c2955552b"},
		{long, "Test Using Larger Than Block-Size Key - Hash Key First", "60e431591ee0b67f0d8a26aacbf5b77f8e0bc6213728c5140546040f0ee37f54"},
		{long, "This is a test using a larger than block-size key and a larger than block-size data. The key needs to be hashed before being used by the HMAC algorithm.", "9b09ffa71b942fcb27635fbcd5b0e944bfdc63644f0713938a7f51535c3a35e2"},
	} {
		sum := mac.Of(x.key, []byte(x.text))
		if !strings.HasPrefix(hex.EncodeToString(sum[:]), x.sum) {
			t.Errorf("Of %d: %x", i, sum)
		}
		if mac.Derive(x.key, x.text) != sum {
			t.Errorf("Derive %d", i)
		}
	}
}

// P2.1: keys of all lengths up to some blocks, and texts about the ends of rows.
func TestOf(t *testing.T) {
	for n := range 201 {
		for _, m := range textEdges {
			b := text(m, 1)
			for _, key := range [][]byte{text(n, 2), make([]byte, n), bytes.Repeat([]byte{0xff}, n), bytes.Repeat([]byte{0x36}, n), bytes.Repeat([]byte{0x5c}, n)} {
				if sum := mac.Of(key, b); sum != want(key, b) || sum != plain(key, b) {
					t.Errorf("key %x, text of %d: %x", key, m, sum)
				}
			}
		}
	}
}

// P2.1: texts of all lengths, for keys about the edges.
func TestOfTexts(t *testing.T) {
	for _, n := range keyEdges {
		key := text(n, 3)
		for m := range 200 {
			for _, b := range [][]byte{text(m, 4), make([]byte, m), bytes.Repeat([]byte{0xff}, m)} {
				if mac.Of(key, b) != want(key, b) {
					t.Errorf("key of %d, text %x", n, b)
				}
			}
		}
	}
}

// P2.1: a list may be nil or empty: they are one.
func TestOfNone(t *testing.T) {
	sum := want(nil, nil)
	for _, key := range [][]byte{nil, {}} {
		for _, b := range [][]byte{nil, {}} {
			if mac.Of(key, b) != sum {
				t.Error("no key, no text", key == nil, b == nil)
			}
		}
		if mac.Of(key, text(40, 1)) != want(nil, text(40, 1)) {
			t.Error("no key", key == nil)
		}
		if mac.Of(text(40, 1), key) != want(text(40, 1), nil) {
			t.Error("no text", key == nil)
		}
		if mac.Derive(key, "") != sum {
			t.Error("no key, no label", key == nil)
		}
	}
}

// P2.1: each bit of a key and of a text tells, at keys of 63, 64 and 65 bytes.
func TestOfEachBit(t *testing.T) {
	for _, n := range []int{63, 64, 65} {
		key, b := text(n, 5), text(70, 6)
		seen := map[api.Sum]bool{mac.Of(key, b): true}
		for _, bits := range [][]byte{key, b} {
			for i := range 8 * len(bits) {
				bits[i/8] ^= 1 << (i % 8)
				sum := mac.Of(key, b)
				if sum != want(key, b) || seen[sum] {
					t.Error("key of", n, "bit", i)
				}
				seen[sum] = true
				bits[i/8] ^= 1 << (i % 8)
			}
		}
	}
}

// P2.1: a key and a text of many rows.
func TestOfLong(t *testing.T) {
	long := text(1<<20+17, 7)
	for _, n := range keyEdges {
		if key := text(n, 8); mac.Of(key, long) != want(key, long) {
			t.Error("long text, key of", n)
		}
	}
	if mac.Of(long, text(9, 9)) != want(long, text(9, 9)) || mac.Of(long, long) != want(long, long) {
		t.Error("long key")
	}
}

// P2.1: a key and a text are not one list: where one ends and the other begins tells.
func TestOfCut(t *testing.T) {
	whole := text(150, 10)
	seen := map[api.Sum]bool{}
	for i := range len(whole) + 1 {
		sum := mac.Of(whole[:i], whole[i:])
		if sum != want(whole[:i], whole[i:]) || seen[sum] {
			t.Error("cut at", i)
		}
		seen[sum] = true
	}
}

// P2.1, R4: what went ahead changes no answer.
func TestOfBehindOthers(t *testing.T) {
	chance := rand.New(rand.NewSource(2))
	for range 500 {
		key, b := text(chance.Intn(150), chance.Intn(256)), text(chance.Intn(300), chance.Intn(256))
		if mac.Of(key, b) != want(key, b) || mac.Derive(b, string(key)) != want(b, key) {
			t.Fatal("key of", len(key), "text of", len(b))
		}
	}
}

// P2.2: the label's bytes, whatever they are; and at all edges of the key.
func TestDerive(t *testing.T) {
	all := make([]byte, 256)
	for i := range all {
		all[i] = byte(i)
	}
	labels := []string{
		"", "a", "seal", "seal ", " seal", "Seal", "sum", "\x00", "a\x00", "\x00a", "a\x00b", "line\n", "\r\n",
		"\u00e9", "e\u0301", "\u65e5\u672c", "\U0001f600", "\ufffd", "\xff", "\xc3", "\xe2\x82", "a\xc0\x80z", "\xed\xa0\x80",
		string(all), strings.Repeat("long", 16), strings.Repeat("long", 17), strings.Repeat("\xfe", 300),
	}
	for _, n := range keyEdges {
		key := text(n, 11)
		seen := map[api.Sum]bool{}
		for _, label := range labels {
			sum := mac.Derive(key, label)
			if sum != want(key, []byte(label)) || sum != mac.Of(key, []byte(label)) || seen[sum] {
				t.Errorf("key of %d, label %q: %x", n, label, sum)
			}
			seen[sum] = true
		}
	}
}

// P2.2: labels of all lengths, and a key that came out of a key.
func TestDeriveAgain(t *testing.T) {
	key := text(20, 12)
	for n := range 200 {
		label := text(n, 13)
		sum := mac.Derive(key, string(label))
		if sum != want(key, label) {
			t.Error("label of", n)
		}
		key = sum[:]
	}
}

// unlike tells of two sums that are not the same, either way round, and of each with itself.
func unlike(t *testing.T, a, b api.Sum) {
	t.Helper()
	if mac.Same(a, b) || mac.Same(b, a) {
		t.Errorf("not the same: %x %x", a, b)
	}
	if !mac.Same(a, a) || !mac.Same(b, b) {
		t.Errorf("the same: %x %x", a, b)
	}
}

// sums are some of all kinds.
func sums() []api.Sum {
	return []api.Sum{{}, api.Sum(bytes.Repeat([]byte{0xff}, 32)), api.Sum(bytes.Repeat([]byte{0x80}, 32)), api.Sum(text(32, 14)), sha.Of(nil)}
}

// P2.3: the same, where they came from two places.
func TestSame(t *testing.T) {
	for i, a := range sums() {
		for k, b := range sums() {
			if mac.Same(a, b) != (i == k) {
				t.Error("sums", i, k)
			}
		}
	}
	for n := range 100 {
		if !mac.Same(mac.Of(text(n, 1), text(n, 2)), want(text(n, 1), text(n, 2))) {
			t.Error("made twice", n)
		}
	}
}

// P2.3: one byte is another, whichever it is, and whatever it is.
func TestSameOneByte(t *testing.T) {
	for _, a := range sums() {
		for i := range a {
			for x := range 255 {
				b := a
				b[i] ^= byte(x + 1)
				unlike(t, a, b)
			}
		}
	}
}

// P2.3: two bytes are others, and yet all of them xored, or added, are as they were.
func TestSameTwoBytes(t *testing.T) {
	for _, a := range sums() {
		for i := range a {
			for k := range i {
				for bit := range 8 {
					b := a
					b[i] ^= 1 << bit
					b[k] ^= 1 << bit
					unlike(t, a, b)
					b = a
					b[i] += 1 << bit
					b[k] -= 1 << bit
					unlike(t, a, b)
				}
			}
		}
	}
}

// P2.3: the same bytes in another order, and bytes that are unlike at one end or at all places.
func TestSameOthers(t *testing.T) {
	a := api.Sum(text(32, 15))
	turned := a
	for i := range 31 {
		turned = api.Sum(append(turned[1:], turned[0]))
		if turned == a {
			t.Fatal("turned", i)
		}
		unlike(t, a, turned)
	}
	for n := range 32 {
		front, back, most := a, a, a
		for i := range n + 1 {
			front[i] = ^front[i]
			back[31-i] = ^back[31-i]
		}
		for i := range most {
			if i != n {
				most[i] ^= 0x55
			}
		}
		unlike(t, a, front)
		unlike(t, a, back)
		unlike(t, a, most)
	}
}

// P2.3: it looks at each byte. No answer shows that, so its text is read: it does not leave off midway, and leaves the looking to nothing that does.
func TestSameLooksAtEach(t *testing.T) {
	f := sameInText(t)
	names := map[string]bool{}
	for _, p := range f.Type.Params.List {
		for _, n := range p.Names {
			names[n.Name] = true
		}
	}
	whole := func(e ast.Expr) bool {
		n, ok := ast.Unparen(e).(*ast.Ident)
		return ok && names[n.Name]
	}
	ast.Inspect(f.Body, func(n ast.Node) bool {
		switch x := n.(type) {
		case *ast.BinaryExpr:
			if x.Op == token.LAND || x.Op == token.LOR {
				t.Error("the right side is looked at only sometimes:", x.Op)
			}
			if whole(x.X) && whole(x.Y) {
				t.Error("whole sums are held against each other")
			}
		case *ast.CallExpr:
			if s, ok := x.Fun.(*ast.SelectorExpr); ok && (s.Sel.Name == "Equal" || s.Sel.Name == "Compare") {
				t.Error("it is left to", s.Sel.Name)
			}
		case *ast.ForStmt:
			noLeaving(t, x.Body)
		case *ast.RangeStmt:
			noLeaving(t, x.Body)
		}
		return true
	})
}

// noLeaving tells of a loop that may end ahead of its last round.
func noLeaving(t *testing.T, body *ast.BlockStmt) {
	t.Helper()
	ast.Inspect(body, func(n ast.Node) bool {
		switch n.(type) {
		case *ast.ReturnStmt, *ast.BranchStmt:
			t.Error("the loop is left midway")
		}
		return true
	})
}

// sameInText is the function Same, as the package's files have it.
func sameInText(t *testing.T) *ast.FuncDecl {
	t.Helper()
	names, err := filepath.Glob("*.go")
	if err != nil {
		t.Fatal(err)
	}
	for _, name := range names {
		if strings.HasSuffix(name, "_test.go") {
			continue
		}
		file, err := parser.ParseFile(token.NewFileSet(), name, nil, 0)
		if err != nil {
			t.Fatal(err)
		}
		for _, d := range file.Decls {
			if f, ok := d.(*ast.FuncDecl); ok && f.Name.Name == "Same" && f.Recv == nil && f.Body != nil {
				return f
			}
		}
	}
	t.Fatal("no Same")
	return nil
}

// P2.4: a key with noughts behind it, up to 64 bytes, is as the key.
func TestKeyWithNoughts(t *testing.T) {
	b := text(50, 16)
	for n := range 65 {
		key := text(n, 17)
		sum := mac.Of(key, b)
		if sum != want(key, b) {
			t.Error("key of", n)
		}
		for more := range 64 - n + 1 {
			longer := append(bytes.Clone(key), make([]byte, more)...)
			if mac.Of(longer, b) != sum || mac.Derive(longer, string(b)) != sum {
				t.Error("key of", n, "and noughts:", more)
			}
		}
		for _, size := range []int{65, 66, 128} {
			longer := append(bytes.Clone(key), make([]byte, size-n)...)
			if s := mac.Of(longer, b); s != want(longer, b) || s == sum {
				t.Error("key of", n, "with noughts up to", size)
			}
		}
	}
}

// P2.4: a longer key is as its digest, also with noughts behind that; one of 64 bytes and less is not.
func TestKeyAsItsDigest(t *testing.T) {
	b := text(50, 18)
	for _, n := range keyEdges {
		for _, key := range [][]byte{text(n, 19), make([]byte, n), bytes.Repeat([]byte{0xff}, n)} {
			d := sha.Of(key)
			sum := mac.Of(key, b)
			if (mac.Of(d[:], b) == sum) != (n > 64) || (mac.Derive(d[:], string(b)) == sum) != (n > 64) {
				t.Error("key of", n)
			}
			wide := append(d[:], make([]byte, 32)...)
			if (mac.Of(wide, b) == sum) != (n > 64) {
				t.Error("digest with noughts, key of", n)
			}
		}
	}
}

// R3: neither a key nor a text is changed, nor what lies behind their ends; they may be one list.
func TestNotChanged(t *testing.T) {
	for _, n := range keyEdges {
		for _, m := range textEdges {
			keys, texts := text(n+200, 20), text(m+200, 21)
			mac.Of(keys[:n], texts[:m])
			mac.Derive(keys[:n], "label")
			if !bytes.Equal(keys, text(n+200, 20)) || !bytes.Equal(texts, text(m+200, 21)) {
				t.Error("changed", n, m)
			}
			whole := text(n+m+200, 22)
			key, b := whole[:n], whole[n/2:n/2+m]
			if mac.Of(key, b) != want(text(n+m+200, 22)[:n], text(n+m+200, 22)[n/2:n/2+m]) || !bytes.Equal(whole, text(n+m+200, 22)) {
				t.Error("overlapping", n, m)
			}
		}
	}
}

// R3: nothing is kept: what was handed in, or out, may be written over behind the call.
func TestNotKept(t *testing.T) {
	for _, n := range keyEdges {
		key, b := text(n, 23), text(n, 24)
		sum, derived := mac.Of(key, b), mac.Derive(key, "label")
		clear(key)
		clear(b)
		if sum != want(text(n, 23), text(n, 24)) || derived != want(text(n, 23), []byte("label")) {
			t.Error("key of", n)
		}
		clear(sum[:])
		clear(derived[:])
		key, b = text(n, 23), text(n, 24)
		if mac.Of(key, b) != want(key, b) || mac.Derive(key, "label") != want(key, []byte("label")) {
			t.Error("again, key of", n)
		}
	}
}
