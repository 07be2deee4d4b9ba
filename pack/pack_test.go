package pack_test

import (
	"bytes"
	"encoding/binary"
	"math"
	"math/rand"
	"slices"
	"testing"

	"rill/api"
	"rill/pack"
)

// numbers are those about the ends of bytes and of all of them.
var numbers = []int{
	0, 1, -1, 2, -2, 127, 128, 129, -127, -128, -129, 254, 255, 256, 257, 258, -255, -256, -257, 32767, 32768, -32768, -32769, 65535, 65536, -65536,
	1<<31 - 1, 1 << 31, 1<<31 + 1, -1 << 31, -1<<31 - 1, 1<<32 - 1, 1 << 32, 1<<32 + 1, -1 << 32, -1<<32 - 1, api.MaxNumber, api.MaxNumber + 1, -api.MaxNumber, 1<<53 + 1, 1<<56 - 1, 1 << 56, -1 << 56,
	0x0102030405060708, -0x0102030405060708, 0x7f80017e81ff00fe, math.MaxInt - 1, math.MaxInt, math.MinInt, math.MinInt + 1,
}

// kind is a kind of thing that is put and read; of what is read the bytes are told, as Go's own package has them.
type kind struct {
	name string
	size int
	put  func(b []byte, own []byte) []byte
	read func(r *pack.Reader) []byte
}

// kinds are all that a reader reads. Byte alone is put by no call.
var kinds = []kind{
	{"Byte", 1, func(b, own []byte) []byte { return append(bytes.Clone(b), own[0]) }, func(r *pack.Reader) []byte { return []byte{r.Byte()} }},
	{"Int", 8, func(b, own []byte) []byte { return pack.Int(b, number(own)) }, func(r *pack.Reader) []byte { return ofInt(r.Int()) }},
	{"Sum", 32, func(b, own []byte) []byte { return pack.Sum(b, api.Sum(own)) }, func(r *pack.Reader) []byte { return ofSum(r.Sum()) }},
	{"Ref", 40, func(b, own []byte) []byte { return pack.Ref(b, ref(own)) }, func(r *pack.Reader) []byte { return ofRef(r.Ref()) }},
}

// number is the number that eight bytes are.
func number(own []byte) int { return int(binary.BigEndian.Uint64(own)) }

// ref is the ref that forty bytes are.
func ref(own []byte) api.Ref { return api.Ref{At: number(own), Sum: api.Sum(own[8:])} }

// ofInt are a number's bytes.
func ofInt(v int) []byte { return binary.BigEndian.AppendUint64(nil, uint64(v)) }

// ofSum are a digest's bytes.
func ofSum(s api.Sum) []byte { return s[:] }

// ofRef are a ref's bytes.
func ofRef(r api.Ref) []byte { return append(ofInt(r.At), r.Sum[:]...) }

// text are bytes of all kinds.
func text(n int, seed int64) []byte {
	b := make([]byte, n)
	rand.New(rand.NewSource(seed)).Read(b)
	return b
}

// full are bytes of which none is 0.
func full(n int) []byte {
	b := make([]byte, n)
	for i := range b {
		b[i] = byte(1 + i%255)
	}
	return b
}

// sums are digests in which each place has a byte of its own, or few have one.
func sums() []api.Sum {
	l := []api.Sum{{}, {1}, {31: 1}, {0: 255, 31: 128}, api.Sum(full(32)), api.Sum(bytes.Repeat([]byte{255}, 32))}
	for seed := range 5 {
		l = append(l, api.Sum(text(32, int64(seed))))
	}
	return l
}

// heads are bytes that stand ahead of what is put.
func heads() [][]byte {
	return [][]byte{nil, {}, {0}, {7}, {255}, full(7), full(8), full(9), text(40, 1), text(1000, 2), text(5000, 3)}
}

// same tells of bytes that are not those that they should be.
func same(t *testing.T, what string, got, want []byte) {
	t.Helper()
	if !bytes.Equal(got, want) {
		t.Errorf("%s: % x, not % x", what, got, want)
	}
}

// stands tells of a reader of which so many bytes are not left, or that is bad, or is not; asking changes nothing.
func stands(t *testing.T, r *pack.Reader, left int, bad bool) {
	t.Helper()
	want := api.OK
	switch {
	case bad:
		want = api.ErrForm
	case left > 0:
		want = api.ErrLong
	}
	for range 2 {
		if r.End() != want || r.Left() != left || r.Bad() != bad {
			t.Errorf("left %d, bad %v, end %d, not %d, %v, %d", r.Left(), r.Bad(), r.End(), left, bad, want)
		}
	}
}

// dead tells of a reader that is not bad in each call, again and again.
func dead(t *testing.T, r *pack.Reader) {
	t.Helper()
	stands(t, r, 0, true)
	for range 2 {
		for _, k := range kinds {
			same(t, k.name+" of a bad one", k.read(r), make([]byte, k.size))
			stands(t, r, 0, true)
		}
	}
}

// reader is one; the test is told if there is none.
func reader(t *testing.T, b []byte) *pack.Reader {
	t.Helper()
	r := pack.Read(b)
	if r == nil {
		t.Fatal("no reader")
	}
	return r
}

// The chapter's examples.
func TestExamples(t *testing.T) {
	nine := pack.Int([]byte{7}, 258)
	same(t, "Int(07, 258)", nine, []byte{7, 0, 0, 0, 0, 0, 0, 1, 2})
	same(t, "Int(none, -1)", pack.Int(nil, -1), []byte{255, 255, 255, 255, 255, 255, 255, 255})

	r := reader(t, nine)
	if a, b := r.Byte(), r.Int(); a != 7 || b != 258 {
		t.Error(a, b)
	}
	stands(t, r, 0, false)

	r = reader(t, full(7))
	if a, b := r.Int(), r.Byte(); a != 0 || b != 0 {
		t.Error(a, b)
	}
	stands(t, r, 0, true)

	r = reader(t, []byte{5, 6})
	if a := r.Byte(); a != 5 {
		t.Error(a)
	}
	stands(t, r, 1, false)
}

// P9.1: numbers written out: eight bytes, in two's complement, the highest first.
func TestIntBytes(t *testing.T) {
	for _, x := range []struct {
		v    int
		want string
	}{
		{0, "\x00\x00\x00\x00\x00\x00\x00\x00"},
		{1, "\x00\x00\x00\x00\x00\x00\x00\x01"},
		{-1, "\xff\xff\xff\xff\xff\xff\xff\xff"},
		{-2, "\xff\xff\xff\xff\xff\xff\xff\xfe"},
		{127, "\x00\x00\x00\x00\x00\x00\x00\x7f"},
		{128, "\x00\x00\x00\x00\x00\x00\x00\x80"},
		{-128, "\xff\xff\xff\xff\xff\xff\xff\x80"},
		{255, "\x00\x00\x00\x00\x00\x00\x00\xff"},
		{256, "\x00\x00\x00\x00\x00\x00\x01\x00"},
		{-256, "\xff\xff\xff\xff\xff\xff\xff\x00"},
		{1 << 31, "\x00\x00\x00\x00\x80\x00\x00\x00"},
		{-1 << 31, "\xff\xff\xff\xff\x80\x00\x00\x00"},
		{1 << 32, "\x00\x00\x00\x01\x00\x00\x00\x00"},
		{-1 << 32, "\xff\xff\xff\xff\x00\x00\x00\x00"},
		{api.MaxNumber, "\x00\x00\x01\x00\x00\x00\x00\x00"},
		{0x0102030405060708, "\x01\x02\x03\x04\x05\x06\x07\x08"},
		{-0x0102030405060708, "\xfe\xfd\xfc\xfb\xfa\xf9\xf8\xf8"},
		{math.MaxInt, "\x7f\xff\xff\xff\xff\xff\xff\xff"},
		{math.MaxInt - 1, "\x7f\xff\xff\xff\xff\xff\xff\xfe"},
		{math.MinInt, "\x80\x00\x00\x00\x00\x00\x00\x00"},
		{math.MinInt + 1, "\x80\x00\x00\x00\x00\x00\x00\x01"},
	} {
		same(t, "Int", pack.Int(nil, x.v), []byte(x.want))
		if v := reader(t, []byte(x.want)).Int(); v != x.v {
			t.Errorf("% x: %d, not %d", x.want, v, x.v)
		}
	}
}

// P9.1, P9.5: numbers, with no bytes ahead and with some, and back.
func TestInt(t *testing.T) {
	for _, v := range numbers {
		for _, head := range heads() {
			b := pack.Int(head, v)
			same(t, "Int", b, slices.Concat(head, ofInt(v)))
			if got := reader(t, b[len(head):]).Int(); got != v {
				t.Errorf("%d, not %d", got, v)
			}
		}
	}
}

// P9.1, P9.5: digests, likewise.
func TestSum(t *testing.T) {
	for _, s := range sums() {
		for _, head := range heads() {
			b := pack.Sum(head, s)
			same(t, "Sum", b, slices.Concat(head, s[:]))
			if got := reader(t, b[len(head):]).Sum(); got != s {
				t.Errorf("% x, not % x", got, s)
			}
		}
	}
}

// P9.1, P9.5: refs, likewise: At ahead, whatever it is, Sum behind; nothing is asked of either.
func TestRef(t *testing.T) {
	for _, at := range numbers {
		for _, s := range sums() {
			want := slices.Concat(ofInt(at), s[:])
			for _, head := range heads() {
				b := pack.Ref(head, api.Ref{At: at, Sum: s})
				same(t, "Ref", b, slices.Concat(head, want))
				if got := reader(t, b[len(head):]).Ref(); got != (api.Ref{At: at, Sum: s}) {
					t.Errorf("%v, not %d, % x", got, at, s)
				}
			}
		}
	}
}

// P9.1: a list with spare room behind its end stays as it was, and so does the room; what is answered shares no memory with it.
func TestPutApart(t *testing.T) {
	for _, k := range kinds[1:] {
		for _, n := range []int{0, 1, 9, 300} {
			for _, spare := range []int{0, 1, k.size - 1, k.size, k.size + 1, 100, 1000} {
				whole := text(n+spare, int64(n))
				was, own := bytes.Clone(whole), full(k.size)
				b := k.put(whole[:n], own)
				want := slices.Concat(was[:n], own)
				same(t, k.name, b, want)
				same(t, k.name+": what was handed in", whole, was)

				again := k.put(whole[:n], own)
				for i := range b {
					b[i] ^= 255
				}
				_ = append(b, full(100)...)
				same(t, k.name+": what was handed in, behind the answer's change", whole, was)
				same(t, k.name+": another answer", again, want)
				for i := range whole {
					whole[i] ^= 255
				}
				same(t, k.name+": the answer, behind a change of what was handed in", again, want)
			}
		}
	}
}

// P9.1: two things that are put behind one beginning know nothing of each other.
func TestPutTwice(t *testing.T) {
	for _, one := range kinds[1:] {
		for _, two := range kinds[1:] {
			head := pack.Int(pack.Int(nil, 5), -5)
			a, b := one.put(head, full(one.size)), two.put(head, text(two.size, 4))
			same(t, one.name, a, slices.Concat(ofInt(5), ofInt(-5), full(one.size)))
			same(t, two.name, b, slices.Concat(ofInt(5), ofInt(-5), text(two.size, 4)))
		}
	}
}

// P9.2, P9.4: a reader that has read nothing: no byte of it is gone, and it is not bad; of no bytes it is at its end.
func TestRead(t *testing.T) {
	stands(t, reader(t, nil), 0, false)
	for n := range 2000 {
		stands(t, reader(t, make([]byte, n)), n, false)
	}
	stands(t, reader(t, make([]byte, 1<<20)), 1<<20, false)
}

// P9.2: what becomes later of the bytes makes no difference, wherever the reader stands; nor does it change them, or what lies behind them.
func TestReadApart(t *testing.T) {
	for at := range 82 {
		whole := full(100)
		b := whole[:81]
		r := reader(t, b)
		for i := range at {
			if x := r.Byte(); int(x) != i+1 {
				t.Errorf("byte %d: %d", i, x)
			}
		}
		same(t, "what was handed in", whole, full(100))
		clear(whole)
		for i := at; i < 81; i++ {
			if x := r.Byte(); int(x) != i+1 {
				t.Errorf("byte %d, written over at %d: %d", i, at, x)
			}
		}
		stands(t, r, 0, false)
	}
	for _, k := range kinds {
		own := full(k.size)
		r := reader(t, own)
		clear(own)
		same(t, k.name, k.read(r), full(k.size))
		same(t, "what was handed in", own, make([]byte, k.size))
	}
}

// P9.2, P9.3: what lies behind the end of the bytes is not read, and stays as it was.
func TestReadSpare(t *testing.T) {
	for _, k := range kinds {
		for n := range k.size {
			whole := full(2 * k.size)
			r := reader(t, whole[:n])
			stands(t, r, n, false)
			same(t, k.name, k.read(r), make([]byte, k.size))
			dead(t, r)
			same(t, "what was handed in", whole, full(2*k.size))
		}
	}
}

// P9.2: readers of the same bytes, one of them bad, have nothing in common.
func TestReadersApart(t *testing.T) {
	b := full(41)
	one, two, three := reader(t, b), reader(t, b), reader(t, b)
	one.Byte()
	one.Ref()
	one.Byte()
	dead(t, one)
	stands(t, two, 41, false)
	two.Int()
	stands(t, two, 33, false)
	stands(t, three, 41, false)
	same(t, "Ref", ofRef(three.Ref()), full(40))
	same(t, "Sum", ofSum(two.Sum()), full(40)[8:])
	dead(t, one)
	stands(t, two, 1, false)
	stands(t, three, 1, false)
}

// P9.3, P9.4: each call on readers of all lengths, just its own, one less and one more among them.
func TestLengths(t *testing.T) {
	for _, k := range kinds {
		for n := range 130 {
			b := full(n)
			r := reader(t, b)
			got := k.read(r)
			if n < k.size {
				same(t, k.name, got, make([]byte, k.size))
				dead(t, r)
				continue
			}
			same(t, k.name, got, b[:k.size])
			stands(t, r, n-k.size, false)
		}
	}
}

// P9.3, P9.4: the lengths about the ends, written out, and what is answered behind the end.
func TestEnds(t *testing.T) {
	for _, x := range []struct {
		n, kind int
		left    int
		bad     bool
		end     api.Errno
	}{
		{0, 0, 0, true, api.ErrForm}, {1, 0, 0, false, api.OK}, {2, 0, 1, false, api.ErrLong},
		{0, 1, 0, true, api.ErrForm}, {7, 1, 0, true, api.ErrForm}, {8, 1, 0, false, api.OK}, {9, 1, 1, false, api.ErrLong},
		{0, 2, 0, true, api.ErrForm}, {31, 2, 0, true, api.ErrForm}, {32, 2, 0, false, api.OK}, {33, 2, 1, false, api.ErrLong},
		{0, 3, 0, true, api.ErrForm}, {39, 3, 0, true, api.ErrForm}, {40, 3, 0, false, api.OK}, {41, 3, 1, false, api.ErrLong},
	} {
		r := reader(t, full(x.n))
		kinds[x.kind].read(r)
		if r.Left() != x.left || r.Bad() != x.bad || r.End() != x.end {
			t.Errorf("%s of %d bytes: left %d, bad %v, end %d", kinds[x.kind].name, x.n, r.Left(), r.Bad(), r.End())
		}
	}
	for _, first := range kinds {
		for _, behind := range kinds {
			r := reader(t, full(first.size))
			first.read(r)
			stands(t, r, 0, false)
			same(t, behind.name+" behind the end", behind.read(r), make([]byte, behind.size))
			dead(t, r)
		}
	}
}

// P9.3: a call that asks for too much makes the reader bad for ever: what would have been enough for other calls is not read any more.
func TestBad(t *testing.T) {
	for _, k := range kinds {
		for read := range 20 {
			for left := range k.size {
				r := reader(t, full(read+left))
				for i := range read {
					if x := r.Byte(); int(x) != i+1 {
						t.Errorf("byte %d: %d", i, x)
					}
				}
				stands(t, r, left, false)
				same(t, k.name, k.read(r), make([]byte, k.size))
				dead(t, r)
			}
		}
	}
}

// P9.3: noughts that are read are no sign of a bad reader; nor is a ref that says nothing.
func TestNoughts(t *testing.T) {
	r := reader(t, make([]byte, 81))
	for i, left := range []int{80, 72, 40, 0} {
		same(t, kinds[i].name, kinds[i].read(r), make([]byte, kinds[i].size))
		stands(t, r, left, false)
	}
	r.Byte()
	dead(t, r)
}

// P9.5: things of all kinds, four by four, put one behind the other, are read as they were; a beginning of the bytes is read as far as it goes, and no farther.
func TestBack(t *testing.T) {
	for c := range 256 {
		l := []kind{kinds[c%4], kinds[c/4%4], kinds[c/16%4], kinds[c/64]}
		var b, all []byte
		for i, k := range l {
			own := text(k.size, int64(c+i))
			b, all = k.put(b, own), append(all, own...)
		}
		same(t, "all", b, all)
		for _, n := range []int{len(b), len(b) - 1, len(b) / 2, l[0].size, 0} {
			through(t, l, b[:n])
		}
		through(t, l, append(b, 9))
	}
}

// through reads things of these kinds, and tells where they are not just the next bytes.
func through(t *testing.T, l []kind, b []byte) {
	t.Helper()
	r, at := reader(t, b), 0
	for _, k := range l {
		got := k.read(r)
		if at+k.size > len(b) {
			same(t, k.name+" behind the end", got, make([]byte, k.size))
			dead(t, r)
			return
		}
		same(t, k.name, got, b[at:at+k.size])
		at += k.size
		stands(t, r, len(b)-at, false)
	}
}

// P9.5: what is read, of any bytes, has just the bytes that were read: put again, they are the same.
func TestAgain(t *testing.T) {
	for seed := range 3000 {
		b := text(8+32+40, int64(seed))
		r := reader(t, b)
		same(t, "all", pack.Ref(pack.Sum(pack.Int(nil, r.Int()), r.Sum()), r.Ref()), b)
		stands(t, r, 0, false)
		r = reader(t, b)
		same(t, "all", pack.Sum(pack.Ref(pack.Int(nil, r.Int()), r.Ref()), r.Sum()), b)
		stands(t, r, 0, false)
	}
}

// plain is what the chapter words of a reader.
type plain struct {
	bytes []byte
	read  int
	bad   bool
}

// next is what it reads of a size.
func (p *plain) next(size int) []byte {
	if p.bad || len(p.bytes)-p.read < size {
		p.bad = true
		return make([]byte, size)
	}
	p.read += size
	return p.bytes[p.read-size : p.read]
}

// left is how many of its bytes are not read.
func (p *plain) left() int {
	if p.bad {
		return 0
	}
	return len(p.bytes) - p.read
}

// P9.2 to P9.5: by chance, a reader answers what the plain one does, up to its end and behind it.
func TestChance(t *testing.T) {
	for seed := range 3000 {
		c := rand.New(rand.NewSource(int64(seed)))
		p := &plain{bytes: text(c.Intn(1<<c.Intn(11)), int64(seed))}
		r := reader(t, p.bytes)
		for step := range 60 {
			k := kinds[c.Intn(1+c.Intn(4))]
			if got, want := k.read(r), p.next(k.size); !bytes.Equal(got, want) {
				t.Fatalf("seed %d, step %d: %s: % x, not % x", seed, step, k.name, got, want)
			}
			stands(t, r, p.left(), p.bad)
		}
	}
}

// P9.1, P9.5: by chance, what is put one behind the other by many calls is read by the same ones, whatever memory lies behind what is handed on.
func TestPutChance(t *testing.T) {
	for seed := range 500 {
		c := rand.New(rand.NewSource(int64(seed)))
		var b, all []byte
		var l []kind
		for range c.Intn(40) {
			k := kinds[c.Intn(4)]
			own := text(k.size, c.Int63())
			was := bytes.Clone(b)
			longer := k.put(b[:len(b):len(b)+c.Intn(cap(b)-len(b)+1)], own)
			same(t, "what was handed in", b, was)
			b, all, l = longer, append(all, own...), append(l, k)
		}
		same(t, "all", b, all)
		through(t, l, b)
	}
}
