package load_test

import (
	"bytes"
	"encoding/binary"
	"math"
	"math/rand"
	"slices"
	"testing"

	"rill/api"
	"rill/disk"
	"rill/load"
	"rill/names"
	"rill/seal"
	"rill/sector"
	"rill/tree"
)

// sectors is how many of them a disk of these tests has.
const sectors = 40

// far are numbers that are out of every place, among them those that wrap round into one when they are cut, or reckoned with.
var far = []int{
	-1, -2, -7, -8, -9, -63, -64, -255, -256, -1 << 31, -1<<31 + 3, -1 << 32, -1<<32 + 3, -1 << 40, -1 << 61, -1 << 62, -1<<62 + 3,
	-math.MaxInt, math.MinInt, math.MinInt + 1, math.MinInt + 3, math.MinInt + 64,
	64, 65, 72, 128, 255, 256, 256 + 3, 4095, 4096, 1 << 16, 1<<16 + 3, 1<<31 - 1, 1 << 31, 1 << 32, 1<<32 + 1, 1<<32 + 3, 1 << 40, 1 << 61, 1 << 62,
	math.MaxInt - 64, math.MaxInt - 8, math.MaxInt - 1, math.MaxInt,
}

// each runs a test with new crypts of both sorts.
func each(t *testing.T, f func(t *testing.T, c api.Crypt)) {
	t.Run("Box", func(t *testing.T) { f(t, seal.New([]byte("key"))) })
	t.Run("Names", func(t *testing.T) { f(t, names.New()) })
}

// laid is a new disk.
func laid(t *testing.T) *disk.Disk {
	t.Helper()
	d, e := disk.New(sectors)
	if e != api.OK {
		t.Fatal(e)
	}
	return d
}

// put lays a sector where it says that it stands, or anywhere else, and tells its ref there.
func put(t *testing.T, d *disk.Disk, c api.Crypt, s api.Sector, at int) api.Ref {
	t.Helper()
	b, e := sector.Put(c, s)
	if e != api.OK {
		t.Fatal(e)
	}
	return raw(t, d, c, at, b)
}

// raw lays any bytes, and tells the ref of them.
func raw(t *testing.T, d *disk.Disk, c api.Crypt, at int, b []byte) api.Ref {
	t.Helper()
	if e := d.Write(at, b); e != api.OK {
		t.Fatal(e)
	}
	return api.Ref{At: at, Sum: c.Sum(b)}
}

// plain lays a plain text as a sector of a kind.
func plain(t *testing.T, d *disk.Disk, c api.Crypt, kind, at int, b []byte) api.Ref {
	t.Helper()
	return put(t, d, c, api.Sector{Kind: kind, Epoch: 3, Number: 100 + at, At: at, Plain: b}, at)
}

// node lays a node.
func node(t *testing.T, d *disk.Disk, c api.Crypt, at, index int, p api.Page) api.Ref {
	t.Helper()
	return plain(t, d, c, api.KNode, at, nodeBytes(index, p))
}

// nodeBytes are a node's bytes, as chapters 9 and 13 word them, whether it may be or not.
func nodeBytes(index int, p api.Page) []byte {
	b := binary.BigEndian.AppendUint64(nil, uint64(index))
	for _, r := range p.Refs {
		b = append(binary.BigEndian.AppendUint64(b, uint64(r.At)), r.Sum[:]...)
	}
	return b
}

// blockBytes are a block's plain text, if data has 32 bytes.
func blockBytes(block int, data []byte) []byte {
	return append(binary.BigEndian.AppendUint64(nil, uint64(block)), data...)
}

// data are 32 bytes of which no two are one.
func data(first int) []byte {
	b := make([]byte, 32)
	for i := range b {
		b[i] = byte(first + i)
	}
	return b
}

// ref is a ref with this At.
func ref(at int) api.Ref {
	return api.Ref{At: at, Sum: api.Sum{0: byte(at), 30: 7, 31: byte(at >> 8)}}
}

// pageOf is a node with refs in these places.
func pageOf(refs map[int]api.Ref) api.Page {
	var p api.Page
	for i, r := range refs {
		p.Refs[i] = r
	}
	return p
}

// pages are nodes: with no ref, one, some, all; with places at their ends.
func pages() []api.Page {
	var all api.Page
	for i := range all.Refs {
		all.Refs[i] = ref(9 + i)
	}
	return []api.Page{{}, pageOf(map[int]api.Ref{0: ref(3)}), pageOf(map[int]api.Ref{7: ref(4095)}), pageOf(map[int]api.Ref{2: {At: 5}, 3: ref(5), 6: ref(4000)}), all}
}

// isNode tells of a node that is not told.
func isNode(t *testing.T, d *disk.Disk, c api.Crypt, r api.Ref, index int, want api.Page) {
	t.Helper()
	if p, e := load.Node(d, c, r, index); e != api.OK || p != want {
		t.Errorf("Node %d at %d: %v, %d, not %v", index, r.At, p, e, want)
	}
}

// noNode tells of a call of Node that is not refused.
func noNode(t *testing.T, d *disk.Disk, c api.Crypt, r api.Ref, index int) {
	t.Helper()
	if p, e := load.Node(d, c, r, index); e != api.ErrTamper || p != (api.Page{}) {
		t.Errorf("Node %d at %d: %v, %d", index, r.At, p, e)
	}
}

// isBlock tells of a block that is not told.
func isBlock(t *testing.T, d *disk.Disk, c api.Crypt, r api.Ref, block int, want []byte) {
	t.Helper()
	if b, e := load.Block(d, c, r, block); e != api.OK || !bytes.Equal(b, want) {
		t.Errorf("Block %d at %d: %x, %d, not %x", block, r.At, b, e, want)
	}
}

// noBlock tells of a call of Block that is not refused.
func noBlock(t *testing.T, d *disk.Disk, c api.Crypt, r api.Ref, block int) {
	t.Helper()
	if b, e := load.Block(d, c, r, block); e != api.ErrTamper || len(b) != 0 {
		t.Errorf("Block %d at %d: %x, %d", block, r.At, b, e)
	}
}

// noTree tells of a call of Tree that is not refused.
func noTree(t *testing.T, d *disk.Disk, c api.Crypt, root api.Ref, blocks int) {
	t.Helper()
	if x, e := load.Tree(d, c, root, blocks); e != api.ErrTamper || x != nil {
		t.Errorf("Tree at %d, %d blocks: one is told %t, %d", root.At, blocks, x != nil, e)
	}
}

// isTree tells of a tree that is not told; the answer is what was.
func isTree(t *testing.T, d *disk.Disk, c api.Crypt, root api.Ref, blocks int, want *tree.Tree) *tree.Tree {
	t.Helper()
	x, e := load.Tree(d, c, root, blocks)
	if e != api.OK || x == nil {
		t.Fatalf("Tree at %d, %d blocks: %d", root.At, blocks, e)
	}
	same(t, x, want)
	return x
}

// same tells of trees that are unlike.
func same(t *testing.T, x, want *tree.Tree) {
	t.Helper()
	if len(x.Dirty()) != len(want.Dirty()) || x.Mapped() != want.Mapped() || !slices.Equal(x.Refs(), want.Refs()) {
		t.Errorf("dirty %v, not %v; %d blocks, not %d; %v, not %v", x.Dirty(), want.Dirty(), x.Mapped(), want.Mapped(), x.Refs(), want.Refs())
	}
	for i := range 9 {
		r, ok := x.Node(i)
		wantR, wantOk := want.Node(i)
		if r != wantR || ok != wantOk || x.Page(i) != want.Page(i) {
			t.Errorf("node %d: %v, %t, not %v, %t", i, r, ok, wantR, wantOk)
		}
	}
	for b := range 64 {
		r, ok := x.Get(b)
		wantR, wantOk := want.Get(b)
		if r != wantR || ok != wantOk {
			t.Errorf("block %d: %v, %t, not %v, %t", b, r, ok, wantR, wantOk)
		}
	}
}

// grown is a tree on a disk.
type grown struct {
	root   api.Ref
	leaves map[int]api.Ref // by the nodes' indexes
	tree   *tree.Tree      // what Tree should tell
	most   int             // the greatest block
}

// grow lays a tree of blocks' refs, from a sector on; the blocks are not laid.
func grow(t *testing.T, d *disk.Disk, c api.Crypt, from int, blocks map[int]api.Ref) grown {
	t.Helper()
	g := grown{leaves: map[int]api.Ref{}, tree: tree.New(), most: -1}
	var nodes [9]api.Page
	for b, r := range blocks {
		nodes[1+b/8].Refs[b%8] = r
		g.most = max(g.most, b)
	}
	for i := 1; i < 9; i++ {
		if nodes[i] == (api.Page{}) {
			continue
		}
		g.leaves[i] = node(t, d, c, from, i, nodes[i])
		nodes[0].Refs[i-1] = g.leaves[i]
		if e := g.tree.Load(i, nodes[i], g.leaves[i]); e != api.OK {
			t.Fatal(e)
		}
		from++
	}
	g.root = node(t, d, c, from, 0, nodes[0])
	if e := g.tree.Load(0, nodes[0], g.root); e != api.OK {
		t.Fatal(e)
	}
	return g
}

// some are refs of blocks by chance, one at least.
func some(r *rand.Rand) map[int]api.Ref {
	out := map[int]api.Ref{r.Intn(64): ref(3 + r.Intn(4093))}
	for range r.Intn(30) {
		out[r.Intn(64)] = ref(3 + r.Intn(4093))
	}
	return out
}

// The chapter's examples.
func TestExamples(t *testing.T) {
	each(t, func(t *testing.T, c api.Crypt) {
		d := laid(t)
		isTree(t, d, c, api.Ref{}, 64, tree.New())
		block := plain(t, d, c, api.KData, 3, blockBytes(2, data(1)))
		g := grow(t, d, c, 4, map[int]api.Ref{2: block})
		if x := isTree(t, d, c, g.root, 64, g.tree); x.Mapped() != 1 {
			t.Error(x.Mapped())
		}
		noTree(t, d, c, g.root, 2)
		isBlock(t, d, c, block, 2, data(1))
		noTree(t, d, c, api.Ref{At: g.root.At, Sum: block.Sum}, 64)
		noTree(t, d, c, api.Ref{At: sectors, Sum: g.root.Sum}, 64)
		b, _ := d.Read(4)
		d.Tamper(4, append(b[:len(b)-1], b[len(b)-1]^1))
		noTree(t, d, c, g.root, 64)
	})
}

// P19.1: each index, each node; no other index.
func TestNode(t *testing.T) {
	each(t, func(t *testing.T, c api.Crypt) {
		d := laid(t)
		for index := range 9 {
			for _, p := range pages() {
				r := node(t, d, c, 3+index, index, p)
				isNode(t, d, c, r, index, p)
				for other := -3; other < 20; other++ {
					if other != index {
						noNode(t, d, c, r, other)
					}
				}
				for _, n := range far {
					noNode(t, d, c, r, n)
				}
			}
		}
	})
}

// P19.1, P19.3: the epoch, the number, and each place of the disk make no difference, where they may be.
func TestSealedSo(t *testing.T) {
	each(t, func(t *testing.T, c api.Crypt) {
		d := laid(t)
		p, most := pages()[1], 1<<40
		for at := range sectors {
			for _, n := range [][2]int{{0, 0}, {1, 2}, {most, 0}, {0, most}, {most, most}} {
				r := put(t, d, c, api.Sector{Kind: api.KNode, Epoch: n[0], Number: n[1], At: at, Plain: nodeBytes(4, p)}, at)
				isNode(t, d, c, r, 4, p)
				r = put(t, d, c, api.Sector{Kind: api.KData, Epoch: n[0], Number: n[1], At: at, Plain: blockBytes(4, data(at))}, at)
				isBlock(t, d, c, r, 4, data(at))
			}
		}
	})
}

// ask tells of a call of all three that is not refused, of this ref.
func ask(t *testing.T, d *disk.Disk, c api.Crypt, r api.Ref, index, block int) {
	t.Helper()
	noNode(t, d, c, r, index)
	noBlock(t, d, c, r, block)
	noTree(t, d, c, r, 64)
}

// P19.1 to P19.3: refs that do not hold: with another digest, of another place, of none.
func TestRefs(t *testing.T) {
	each(t, func(t *testing.T, c api.Crypt) {
		d := laid(t)
		block := plain(t, d, c, api.KData, 3, blockBytes(9, data(1)))
		g := grow(t, d, c, 4, map[int]api.Ref{9: block})
		for _, r := range []api.Ref{block, g.leaves[2], g.root} {
			for bit := range 256 {
				x := r
				x.Sum[bit/8] ^= 1 << (bit % 8)
				ask(t, d, c, x, 0, 9)
				noNode(t, d, c, x, 2)
			}
			ask(t, d, c, api.Ref{At: r.At}, 0, 9)
			for at := range sectors {
				if at != r.At {
					ask(t, d, c, api.Ref{At: at, Sum: r.Sum}, 0, 9)
					noNode(t, d, c, api.Ref{At: at, Sum: r.Sum}, 2)
				}
			}
			for _, at := range append([]int{sectors, sectors + 1}, far...) {
				ask(t, d, c, api.Ref{At: at, Sum: r.Sum}, 0, 9)
				noNode(t, d, c, api.Ref{At: at, Sum: r.Sum}, 2)
				ask(t, d, c, api.Ref{At: at}, 0, 9)
			}
		}
		noNode(t, d, c, api.Ref{}, 0)
		noBlock(t, d, c, api.Ref{}, 9)
		isTree(t, d, c, g.root, 64, g.tree)
		isBlock(t, d, c, block, 9, data(1))
	})
}

// P19.1 to P19.3: sectors under their own digest that are not of the kind, or not sealed for the place.
func TestSectors(t *testing.T) {
	each(t, func(t *testing.T, c api.Crypt) {
		d := laid(t)
		top := nodeBytes(0, pages()[1])
		for kind := api.KSuper; kind <= api.KNode; kind++ {
			r := plain(t, d, c, kind, 5, top)
			if kind != api.KNode {
				noNode(t, d, c, r, 0)
				noTree(t, d, c, r, 64)
			}
			r = plain(t, d, c, kind, 5, blockBytes(9, data(1)))
			if kind != api.KData {
				noBlock(t, d, c, r, 9)
			}
		}
		for _, at := range []int{0, 3, 4, 6, 39, 40, 256 + 5, 4095} {
			for _, s := range []api.Sector{{Kind: api.KNode, Plain: top}, {Kind: api.KData, Plain: blockBytes(9, data(1))}} {
				s.Epoch, s.Number, s.At = 1, 2, at
				ask(t, d, c, put(t, d, c, s, 5), 0, 9)
			}
		}
	})
}

// P19.1 to P19.3: bytes under their own digest that nobody sealed: none, few, a sector's with a byte turned, cut, or longer.
func TestBytes(t *testing.T) {
	each(t, func(t *testing.T, c api.Crypt) {
		d := laid(t)
		g := grow(t, d, c, 4, map[int]api.Ref{0: ref(3)})
		block := plain(t, d, c, api.KData, 3, blockBytes(9, data(1)))
		for _, r := range []api.Ref{g.leaves[1], g.root, block} {
			was, _ := d.Read(r.At)
			for i := range was {
				b := bytes.Clone(was)
				b[i] ^= byte(1 + i%255)
				ask(t, d, c, raw(t, d, c, r.At, b), 0, 9)
				ask(t, d, c, raw(t, d, c, r.At, was[:i]), 0, 9)
			}
			for _, more := range [][]byte{{0}, make([]byte, 32), was, make([]byte, 1024-len(was))} {
				ask(t, d, c, raw(t, d, c, r.At, slices.Concat(was, more)), 0, 9)
			}
			raw(t, d, c, r.At, was)
		}
		isTree(t, d, c, g.root, 64, g.tree)
	})
}

// P19.1: plain texts that are no node, sealed and under their digest: too short, too long, of no index, with refs that may not be.
func TestNoNode(t *testing.T) {
	each(t, func(t *testing.T, c api.Crypt) {
		d := laid(t)
		whole := nodeBytes(3, pages()[4])
		for n := range whole {
			noNode(t, d, c, plain(t, d, c, api.KNode, 7, whole[:n]), 3)
		}
		for _, n := range []int{1, 8, 40, 328, api.MaxPlain - 328} {
			noNode(t, d, c, plain(t, d, c, api.KNode, 7, append(bytes.Clone(whole), make([]byte, n)...)), 3)
		}
		for _, index := range append([]int{9, 10, 16}, far...) {
			r := plain(t, d, c, api.KNode, 7, nodeBytes(index, pages()[1]))
			noNode(t, d, c, r, index)
			for i := range 9 {
				noNode(t, d, c, r, i)
			}
		}
		for i := range 8 {
			for _, x := range []api.Ref{{Sum: api.Sum{1}}, {Sum: api.Sum{31: 1}}, {At: 1}, {At: 2}, {At: -1}, {At: 4096}, {At: 1<<32 + 3}, {At: math.MinInt + 3}} {
				p := pages()[4]
				p.Refs[i] = x
				for _, index := range []int{0, 3} {
					r := node(t, d, c, 7, index, p)
					noNode(t, d, c, r, index)
					noTree(t, d, c, r, 64)
				}
			}
		}
	})
}

// P19.2: the zero root is that of a tree without blocks, whatever the disk holds, and whatever blocks there may be.
func TestTreeNone(t *testing.T) {
	each(t, func(t *testing.T, c api.Crypt) {
		d := laid(t)
		for _, n := range append([]int{0, 1, 2, 63}, far...) {
			x := isTree(t, d, c, api.Ref{}, n, tree.New())
			x.Set(1, ref(9))
		}
		node(t, d, c, 0, 0, pages()[4])
		isTree(t, d, c, api.Ref{}, 64, tree.New())
		for i := range 32 {
			var x api.Ref
			x.Sum[i] = 1
			noTree(t, d, c, x, 64)
		}
	})
}

// P19.2: trees of one block, of all blocks, and by chance.
func TestTree(t *testing.T) {
	each(t, func(t *testing.T, c api.Crypt) {
		d := laid(t)
		all := map[int]api.Ref{}
		for b := range 64 {
			all[b] = ref(4095 - b)
			g := grow(t, d, c, 3, map[int]api.Ref{b: ref(3 + b)})
			isTree(t, d, c, g.root, 64, g.tree)
			g = grow(t, d, c, 20, all)
			isTree(t, d, c, g.root, 64, g.tree)
		}
		r := rand.New(rand.NewSource(19))
		for range 200 {
			g := grow(t, d, c, 3+r.Intn(29), some(r))
			isTree(t, d, c, g.root, 64, g.tree)
		}
	})
}

// P19.2: the blocks' refs are not gone after: such with places behind the disk, with no digest, and several of one place are taken.
func TestTreeOfAnyRefs(t *testing.T) {
	each(t, func(t *testing.T, c api.Crypt) {
		d := laid(t)
		g := grow(t, d, c, 3, map[int]api.Ref{0: ref(sectors), 1: ref(4095), 2: {At: 3}, 3: {At: 3}, 8: ref(3), 63: ref(3)})
		isTree(t, d, c, g.root, 64, g.tree)
	})
}

// P19.2: each number of blocks against each greatest one.
func TestTreeBlocks(t *testing.T) {
	each(t, func(t *testing.T, c api.Crypt) {
		d := laid(t)
		r := rand.New(rand.NewSource(91))
		for most := range 64 {
			blocks := map[int]api.Ref{most: ref(9)}
			for b := range most {
				if r.Intn(3) == 0 {
					blocks[b] = ref(3 + b)
				}
			}
			g := grow(t, d, c, 3, blocks)
			for n := -2; n < 70; n++ {
				if n > most {
					isTree(t, d, c, g.root, n, g.tree)
				} else {
					noTree(t, d, c, g.root, n)
				}
			}
			for _, n := range far {
				if n > 0 {
					isTree(t, d, c, g.root, n, g.tree)
				} else {
					noTree(t, d, c, g.root, n)
				}
			}
		}
	})
}

// P19.2: roots and leaves without a ref.
func TestTreeEmpty(t *testing.T) {
	each(t, func(t *testing.T, c api.Crypt) {
		d := laid(t)
		noTree(t, d, c, node(t, d, c, 9, 0, api.Page{}), 64)
		g := grow(t, d, c, 10, map[int]api.Ref{0: ref(3), 20: ref(4), 63: ref(5)})
		full, _ := load.Node(d, c, g.root, 0)
		for i := range 8 {
			p := full
			p.Refs[i] = node(t, d, c, 20, i+1, api.Page{})
			noTree(t, d, c, node(t, d, c, 21, 0, p), 64)
		}
		isTree(t, d, c, g.root, 64, g.tree)
	})
}

// P19.2: what stands in a place of a root is the leaf of that place, and a leaf; each leaf that there is, is looked at.
func TestTreeLeaves(t *testing.T) {
	each(t, func(t *testing.T, c api.Crypt) {
		d := laid(t)
		blocks := map[int]api.Ref{}
		for i := range 8 {
			blocks[8*i+i] = ref(30)
		}
		g := grow(t, d, c, 10, blocks)
		full, _ := load.Node(d, c, g.root, 0)
		isTree(t, d, c, g.root, 64, g.tree)
		lone := plain(t, d, c, api.KData, 25, nodeBytes(1, pages()[1]))
		for i := range 8 {
			sum, at := full.Refs[i], full.Refs[i]
			sum.Sum[i] ^= 1
			at.At = 10 + (i+1)%8
			wrong := []api.Ref{sum, at, lone, g.root, ref(30), ref(sectors), ref(4095), node(t, d, c, 26, 0, pages()[1])}
			wrong = append(wrong, slices.Concat(full.Refs[:i], full.Refs[i+1:])...)
			for _, x := range wrong {
				p := full
				p.Refs[i] = x
				noTree(t, d, c, node(t, d, c, 27, 0, p), 64)
				noTree(t, d, c, node(t, d, c, 28, 0, pageOf(map[int]api.Ref{i: x})), 64)
			}
			noTree(t, d, c, full.Refs[i], 64)
			alone := node(t, d, c, 29, 0, pageOf(map[int]api.Ref{i: full.Refs[i]}))
			if x, e := load.Tree(d, c, alone, 64); e != api.OK || x.Mapped() != 1 {
				t.Errorf("the leaf %d alone: %d", i+1, e)
			}
		}
	})
}

// P19.2: a root in each place of the disk; in the sector 0 it is one that tree.Load refuses, so that its leaves are loaded alone.
func TestTreePlaces(t *testing.T) {
	each(t, func(t *testing.T, c api.Crypt) {
		for at := range sectors {
			d := laid(t)
			leafAt := 3 + (at+1)%30
			leaf := node(t, d, c, leafAt, 2, pages()[3])
			root := node(t, d, c, at, 0, pageOf(map[int]api.Ref{1: leaf}))
			want := tree.New()
			want.Load(2, pages()[3], leaf)
			want.Load(0, api.Page{}, root)
			isTree(t, d, c, root, 64, want)
		}
	})
}

// P19.3: each block, and no other number.
func TestBlock(t *testing.T) {
	each(t, func(t *testing.T, c api.Crypt) {
		d := laid(t)
		for block := range 64 {
			for _, b := range [][]byte{data(block), make([]byte, 32), bytes.Repeat([]byte{255}, 32)} {
				r := plain(t, d, c, api.KData, 3+block%30, blockBytes(block, b))
				isBlock(t, d, c, r, block, b)
				for other := -3; other < 70; other++ {
					if other != block {
						noBlock(t, d, c, r, other)
					}
				}
				for _, n := range far {
					noBlock(t, d, c, r, n)
				}
			}
		}
	})
}

// P19.3: a number is held against all eight bytes; how great it may be is not said.
func TestBlockNumbers(t *testing.T) {
	each(t, func(t *testing.T, c api.Crypt) {
		d := laid(t)
		for _, n := range far {
			r := plain(t, d, c, api.KData, 8, blockBytes(n, data(3)))
			isBlock(t, d, c, r, n, data(3))
			for block := range 64 {
				noBlock(t, d, c, r, block)
			}
		}
	})
}

// P19.3: plain texts of any other length are no block's.
func TestBlockLength(t *testing.T) {
	each(t, func(t *testing.T, c api.Crypt) {
		d := laid(t)
		whole := append(blockBytes(5, data(1)), make([]byte, api.MaxPlain-40)...)
		for n := range len(whole) + 1 {
			r := plain(t, d, c, api.KData, 8, whole[:n])
			if n == 40 {
				isBlock(t, d, c, r, 5, data(1))
			} else {
				noBlock(t, d, c, r, 5)
				noBlock(t, d, c, r, 0)
			}
		}
	})
}

// wordsNode is what the chapter's words say of a node: false, if it is refused.
func wordsNode(d *disk.Disk, c api.Crypt, r api.Ref, index int) (api.Page, bool) {
	b, e := d.Read(r.At)
	if e != api.OK || c.Sum(b) != r.Sum {
		return api.Page{}, false
	}
	s, e := sector.Get(c, api.KNode, r.At, b)
	if e != api.OK || len(s.Plain) != 328 {
		return api.Page{}, false
	}
	var p api.Page
	for i := range p.Refs {
		at := s.Plain[8+40*i:]
		p.Refs[i] = api.Ref{At: int(binary.BigEndian.Uint64(at)), Sum: api.Sum(at[8:40])}
		if p.Refs[i] != (api.Ref{}) && (p.Refs[i].At < 3 || p.Refs[i].At > 4095) {
			return api.Page{}, false
		}
	}
	return p, index >= 0 && index < 9 && bytes.Equal(s.Plain, nodeBytes(index, p))
}

// wordsTree is what the chapter's words say of a tree: false, if it is refused.
func wordsTree(d *disk.Disk, c api.Crypt, root api.Ref, blocks int) (*tree.Tree, bool) {
	t := tree.New()
	if root == (api.Ref{}) {
		return t, true
	}
	top, ok := wordsNode(d, c, root, 0)
	if !ok || top == (api.Page{}) {
		return nil, false
	}
	for i := range 8 {
		if top.Refs[i] == (api.Ref{}) {
			continue
		}
		leaf, ok := wordsNode(d, c, top.Refs[i], i+1)
		if !ok || leaf == (api.Page{}) {
			return nil, false
		}
		for k := range 8 {
			if leaf.Refs[k] != (api.Ref{}) && 8*i+k >= blocks {
				return nil, false
			}
		}
		t.Load(i+1, leaf, top.Refs[i])
	}
	t.Load(0, top, root)
	return t, true
}

// chaos is a disk on which nodes, blocks and other sectors lie in disorder, and the refs under which they were laid.
func chaos(t *testing.T, r *rand.Rand, c api.Crypt) (*disk.Disk, []api.Ref) {
	t.Helper()
	d := laid(t)
	refs := []api.Ref{{}, ref(sectors)}
	one := func() api.Ref { return refs[r.Intn(len(refs))] }
	for range 60 {
		at, index, block := 3+r.Intn(sectors-3), r.Intn(9), r.Intn(64)
		var p api.Page
		for range 1 + r.Intn(3) {
			p.Refs[r.Intn(8)] = one()
		}
		switch r.Intn(5) {
		case 0:
			refs = append(refs, plain(t, d, c, api.KData, at, blockBytes(block, data(r.Intn(3)))))
		case 1:
			refs = append(refs, node(t, d, c, at, index, p))
		case 2:
			refs = append(refs, plain(t, d, c, 1+r.Intn(5), at, nodeBytes(r.Intn(11)-1, p)))
		case 3:
			refs = append(refs, grow(t, d, c, 3+r.Intn(29), some(r)).root)
		case 4:
			b, _ := d.Read(r.Intn(sectors))
			refs = append(refs, raw(t, d, c, at, b))
		}
	}
	return d, refs
}

// P19.1 to P19.3: disks in disorder against the chapter's words made another way.
func TestChance(t *testing.T) {
	each(t, func(t *testing.T, c api.Crypt) {
		r := rand.New(rand.NewSource(1919))
		trees, nodes, refused := 0, 0, 0
		for range 100 {
			d, refs := chaos(t, r, c)
			for _, x := range refs {
				for index := range 9 {
					if p, ok := wordsNode(d, c, x, index); ok {
						isNode(t, d, c, x, index, p)
						nodes++
					} else {
						noNode(t, d, c, x, index)
					}
				}
				blocks := r.Intn(80)
				if want, ok := wordsTree(d, c, x, blocks); ok {
					isTree(t, d, c, x, blocks, want)
					trees++
				} else {
					noTree(t, d, c, x, blocks)
					refused++
				}
			}
		}
		if trees < 100 || nodes < 500 || refused < 1000 {
			t.Errorf("%d trees, %d nodes, %d refused", trees, nodes, refused)
		}
	})
}

// volume is what was put on a disk, under which refs, and all images that its sectors ever had.
type volume struct {
	d      *disk.Disk
	blocks map[int]api.Ref
	bytes  map[int][]byte
	tree   grown
	images [][]byte
}

// aged is a volume that was written several times over, in place, so that each sector has elder images that were sealed for it.
func aged(t *testing.T, r *rand.Rand, c api.Crypt) volume {
	t.Helper()
	v := volume{d: laid(t)}
	for range 3 {
		v.blocks, v.bytes = map[int]api.Ref{}, map[int][]byte{}
		for at := 3; at < 20; at++ {
			b := r.Intn(64)
			for v.bytes[b] != nil {
				b = r.Intn(64)
			}
			v.bytes[b] = data(r.Intn(256))
			v.blocks[b] = plain(t, v.d, c, api.KData, at, blockBytes(b, v.bytes[b]))
		}
		v.tree = grow(t, v.d, c, 20, v.blocks)
		for at := range sectors {
			b, _ := v.d.Read(at)
			v.images = append(v.images, b)
		}
	}
	return v
}

// spoil writes a sector over: with an image of any sector, an elder one of its own, a bit turned, or any bytes.
func (v *volume) spoil(r *rand.Rand) {
	at := r.Intn(30)
	b, _ := v.d.Read(at)
	switch r.Intn(4) {
	case 0:
		b = v.images[r.Intn(len(v.images))]
	case 1:
		b = v.images[at+sectors*r.Intn(3)]
	case 2:
		if len(b) > 0 {
			b[r.Intn(len(b))] ^= 1 << r.Intn(8)
		}
	case 3:
		b = make([]byte, r.Intn(1025))
		r.Read(b)
	}
	v.d.Tamper(at, b)
}

// P19.4: whatever is laid over sectors, what is told is what was put, or it is refused.
func TestFound(t *testing.T) {
	r := rand.New(rand.NewSource(4))
	told, refused := 0, 0
	for range 150 {
		c := names.New()
		v := aged(t, r, c)
		for range 1 + r.Intn(6) {
			v.spoil(r)
		}
		if x, e := load.Tree(v.d, c, v.tree.root, 64); e == api.OK {
			same(t, x, v.tree.tree)
			told++
		} else {
			noTree(t, v.d, c, v.tree.root, 64)
			refused++
		}
		for i, x := range v.tree.leaves {
			if p, e := load.Node(v.d, c, x, i); e == api.OK && p != v.tree.tree.Page(i) {
				t.Errorf("leaf %d: %v", i, p)
			}
		}
		for b, x := range v.blocks {
			if got, e := load.Block(v.d, c, x, b); e == api.OK {
				if !bytes.Equal(got, v.bytes[b]) {
					t.Errorf("block %d: %x, not %x", b, got, v.bytes[b])
				}
				told++
			} else {
				noBlock(t, v.d, c, x, b)
				refused++
			}
		}
	}
	if told < 500 || refused < 100 {
		t.Errorf("%d told, %d refused", told, refused)
	}
}

// P19.4: each sector of a tree, with each elder image, and each other sector's, in its place.
func TestElder(t *testing.T) {
	c := names.New()
	v := aged(t, rand.New(rand.NewSource(44)), c)
	of := map[int]bool{v.tree.root.At: true}
	for _, x := range v.tree.leaves {
		of[x.At] = true
	}
	for at := range of {
		was, _ := v.d.Read(at)
		for _, b := range v.images {
			if !bytes.Equal(b, was) {
				v.d.Tamper(at, b)
				noTree(t, v.d, c, v.tree.root, 64)
			}
		}
		v.d.Tamper(at, was)
	}
	for block, x := range v.blocks {
		was, _ := v.d.Read(x.At)
		for _, b := range v.images {
			if !bytes.Equal(b, was) {
				v.d.Tamper(x.At, b)
				noBlock(t, v.d, c, x, block)
			}
		}
		v.d.Tamper(x.At, was)
	}
	isTree(t, v.d, c, v.tree.root, 64, v.tree.tree)
}

// reads tells of a sector that a call reads more often than it may; the answer is how often it reads in all.
func reads(t *testing.T, d *disk.Disk, most int, call func()) int {
	t.Helper()
	var was [sectors]int
	for at := range was {
		was[at] = d.Reads(at)
	}
	call()
	all := 0
	for at := range was {
		n := d.Reads(at) - was[at]
		if n > most {
			t.Errorf("sector %d: read %d times", at, n)
		}
		all += n
	}
	return all
}

// P19.5: Node and Block read a sector once at most, Tree twice, whatever refs lead to.
func TestReads(t *testing.T) {
	each(t, func(t *testing.T, c api.Crypt) {
		r := rand.New(rand.NewSource(5))
		for range 20 {
			d, refs := chaos(t, r, c)
			for _, x := range refs {
				for i := -1; i < 10; i++ {
					reads(t, d, 1, func() { load.Node(d, c, x, i) })
					reads(t, d, 1, func() { load.Block(d, c, x, i) })
				}
				reads(t, d, 2, func() { load.Tree(d, c, x, 64) })
			}
		}
	})
}

// P19.5: roots all of whose refs lead to one sector: to a leaf, to a block, to the root's own place.
func TestReadsOfOne(t *testing.T) {
	each(t, func(t *testing.T, c api.Crypt) {
		for i := range 8 {
			d := laid(t)
			leaf := node(t, d, c, 4, i+1, pages()[4])
			block := plain(t, d, c, api.KData, 5, blockBytes(0, data(1)))
			for _, x := range []api.Ref{leaf, block, ref(7), {At: 7}} {
				var p api.Page
				for k := range p.Refs {
					p.Refs[k] = x
				}
				root := node(t, d, c, 7, 0, p)
				reads(t, d, 2, func() { noTree(t, d, c, root, 64) })
			}
		}
	})
}

// P19.2, P19.5: of the zero root nothing is read; of a tree no block is.
func TestReadsOfNodes(t *testing.T) {
	each(t, func(t *testing.T, c api.Crypt) {
		d := laid(t)
		if n := reads(t, d, 0, func() { load.Tree(d, c, api.Ref{}, 64) }); n != 0 {
			t.Errorf("%d reads", n)
		}
		block := plain(t, d, c, api.KData, 3, blockBytes(0, data(1)))
		g := grow(t, d, c, 4, map[int]api.Ref{0: block})
		was := d.Reads(3)
		isTree(t, d, c, g.root, 64, g.tree)
		if d.Reads(3) != was {
			t.Error("the block is read")
		}
	})
}

// All three do nothing to the disk, and go without power, too.
func TestNothingIsDone(t *testing.T) {
	each(t, func(t *testing.T, c api.Crypt) {
		d := laid(t)
		block := plain(t, d, c, api.KData, 3, blockBytes(9, data(1)))
		d.Sync()
		g := grow(t, d, c, 4, map[int]api.Ref{9: block})
		writes, dirty := d.Writes(), d.Dirty()
		all := func() {
			t.Helper()
			isTree(t, d, c, g.root, 64, g.tree)
			isNode(t, d, c, g.leaves[2], 2, g.tree.Page(2))
			isBlock(t, d, c, block, 9, data(1))
			ask(t, d, c, ref(5), 0, 9)
			ask(t, d, c, ref(sectors), 0, 9)
		}
		all()
		d.Arm(0)
		all()
		if d.Down() {
			t.Error("the power failed by a call that is no operation")
		}
		if d.Spend() != api.ErrDown || !d.Down() {
			t.Error("not armed any more")
		}
		all()
		if d.Writes() != writes || !slices.Equal(d.Dirty(), dirty) || !d.Down() {
			t.Errorf("%d writes, not %d; dirty %v, not %v", d.Writes(), writes, d.Dirty(), dirty)
		}
		d.Crash(nil)
		ask(t, d, c, g.root, 0, 9)
		isBlock(t, d, c, block, 9, data(1))
	})
}

// R3: what is told is new memory.
func TestNewMemory(t *testing.T) {
	each(t, func(t *testing.T, c api.Crypt) {
		d := laid(t)
		block := plain(t, d, c, api.KData, 3, blockBytes(9, data(1)))
		g := grow(t, d, c, 4, map[int]api.Ref{9: block})
		for range 3 {
			b, _ := load.Block(d, c, block, 9)
			other, _ := load.Block(d, c, block, 9)
			clear(b[:cap(b)])
			if !bytes.Equal(other, data(1)) {
				t.Error("two answers share memory")
			}
			x := isTree(t, d, c, g.root, 64, g.tree)
			x.Del(9)
			x.Set(20, ref(30))
			isTree(t, d, c, g.root, 64, g.tree)
			isBlock(t, d, c, block, 9, data(1))
		}
	})
}

// R2: of what is refused because nobody sealed it a crypt that remembers keeps nothing.
func TestNothingIsKept(t *testing.T) {
	c, like := names.New(), names.New()
	d, other := laid(t), laid(t)
	g := grow(t, d, c, 4, map[int]api.Ref{9: ref(3)})
	grow(t, other, like, 4, map[int]api.Ref{9: ref(3)})
	for at := range sectors {
		d.Tamper(at, []byte{byte(at)})
		ask(t, d, c, api.Ref{At: at, Sum: g.root.Sum}, 0, 9)
	}
	if c.Sum([]byte("next")) != like.Sum([]byte("next")) {
		t.Error("spoilt bytes were remembered")
	}
}
