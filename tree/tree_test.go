package tree_test

import (
	"bytes"
	"math"
	"math/rand"
	"slices"
	"testing"

	"rill/api"
	"rill/page"
	"rill/tree"
)

// far are numbers that are out of every place, among them those that wrap round into one when they are cut, or reckoned with.
var far = []int{
	-1, -2, -7, -8, -9, -16, -63, -64, -65, -255, -256, -1 << 31, -1<<31 + 2, -1 << 32, -1<<32 + 2, -1 << 61, -1 << 62, -1<<62 + 1,
	-math.MaxInt, math.MinInt, math.MinInt + 1, math.MinInt + 2, math.MinInt + 8, math.MinInt + 64,
	64, 65, 71, 72, 128, 255, 256, 256 + 2, 1 << 16, 1<<16 + 3, 1<<31 - 1, 1 << 31, 1 << 32, 1<<32 + 1, 1<<32 + 9, 1 << 61, 1<<61 + 1, 1 << 62,
	math.MaxInt - 64, math.MaxInt - 8, math.MaxInt - 7, math.MaxInt - 1, math.MaxInt,
}

// noBlocks are numbers of no block; noNodes of no node.
var (
	noBlocks = far
	noNodes  = append([]int{9, 10, 16, 63}, far...)
)

// nowhere are refs without an At above 0; somewhere refs with one, among them such as no disk has.
var (
	nowhere   = []api.Ref{{}, {Sum: api.Sum{1}}, {Sum: api.Sum{31: 255}}, {At: -1}, {At: -3, Sum: api.Sum{3}}, {At: -256 + 3}, {At: -1<<32 + 3}, {At: math.MinInt}, {At: math.MinInt + 5, Sum: api.Sum{5}}, {At: -math.MaxInt}}
	somewhere = []api.Ref{{At: 1}, {At: 2}, {At: 3}, {At: 1, Sum: api.Sum{31: 1}}, {At: 4095, Sum: api.Sum{9}}, {At: 4096}, {At: 256}, {At: 1 << 31}, {At: 1 << 32}, {At: 1 << 62}, {At: math.MaxInt, Sum: api.Sum{7}}}
)

// ref is a ref with this At.
func ref(at int) api.Ref { return api.Ref{At: at, Sum: api.Sum{0: byte(at), 31: byte(at >> 8)}} }

// refs are refs with these.
func refs(l ...int) []api.Ref {
	var out []api.Ref
	for _, at := range l {
		out = append(out, ref(at))
	}
	return out
}

// plain is a tree in the chapter's words: the blocks that have refs, and the nodes that were saved or loaded and not touched since.
type plain struct {
	blocks, clean map[int]api.Ref
}

func newPlain() *plain {
	return &plain{map[int]api.Ref{}, map[int]api.Ref{0: {}}}
}

// there tells whether a leaf is there, or the root.
func (p *plain) there(index int) bool {
	if index == 0 {
		return true
	}
	for b := range p.blocks {
		if index >= 1 && index <= 8 && b >= 8*(index-1) && b < 8*index {
			return true
		}
	}
	return false
}

// spoilt makes nodes dirty, and tells the refs that were those of clean ones.
func (p *plain) spoilt(nodes ...int) []api.Ref {
	var dead []api.Ref
	for _, i := range nodes {
		if r, ok := p.clean[i]; ok && r.At != 0 {
			dead = append(dead, r)
		}
		delete(p.clean, i)
	}
	return dead
}

func (p *plain) set(block int, r api.Ref) []api.Ref {
	if block < 0 || block > 63 || r.At <= 0 {
		return nil
	}
	var dead []api.Ref
	if had, ok := p.blocks[block]; ok {
		dead = append(dead, had)
	}
	p.blocks[block] = r
	return append(dead, p.spoilt(1+block/8, 0)...)
}

func (p *plain) del(block int) []api.Ref {
	had, ok := p.blocks[block]
	if !ok {
		return nil
	}
	delete(p.blocks, block)
	return append([]api.Ref{had}, p.spoilt(1+block/8, 0)...)
}

func (p *plain) touch(index int) []api.Ref {
	if r, ok := p.clean[index]; !ok || r.At <= 0 {
		return nil
	}
	return p.spoilt(index, 0)
}

func (p *plain) dirty() []int {
	var l []int
	for _, i := range []int{1, 2, 3, 4, 5, 6, 7, 8, 0} {
		if _, ok := p.clean[i]; !ok && p.there(i) {
			l = append(l, i)
		}
	}
	return l
}

func (p *plain) page(index int) api.Page {
	var out api.Page
	for i := range 8 {
		if index == 0 {
			out.Refs[i] = p.clean[i+1]
		} else if index >= 1 && index <= 8 {
			out.Refs[i] = p.blocks[8*index-8+i]
		}
	}
	return out
}

func (p *plain) saved(index int, r api.Ref) api.Errno {
	l := p.dirty()
	if !slices.Contains(l, index) || index == 0 && len(l) > 1 {
		return api.ErrState
	}
	empty := index == 0 && len(p.blocks) == 0
	if empty && r != (api.Ref{}) || !empty && r.At < 1 {
		return api.ErrRange
	}
	p.clean[index] = r
	return api.OK
}

func (p *plain) load(index int, n api.Page, r api.Ref) api.Errno {
	if index < 0 || index > 8 || r.At < 1 {
		return api.ErrRange
	}
	if index == 0 {
		if had, ok := p.clean[0]; !ok || had != (api.Ref{}) {
			return api.ErrState
		}
		p.clean[0] = r
		return api.OK
	}
	if p.there(index) {
		return api.ErrState
	}
	for i, x := range n.Refs {
		if x.At > 0 {
			p.blocks[8*index-8+i] = x
		}
	}
	if !p.there(index) {
		return api.ErrRange
	}
	p.clean[index] = r
	return api.OK
}

func (p *plain) refs() []api.Ref {
	var l []api.Ref
	for b := range 64 {
		if r, ok := p.blocks[b]; ok {
			l = append(l, r)
		}
	}
	for i := range 9 {
		if r, ok := p.clean[i]; ok && r.At != 0 {
			l = append(l, r)
		}
	}
	return l
}

// same tells of a tree that is not what the chapter's words make it, in all that it tells.
func (p *plain) same(t *testing.T, what any, x *tree.Tree) {
	t.Helper()
	for b := -1; b <= 64; b++ {
		want, has := p.blocks[b]
		if r, ok := x.Get(b); ok != has || r != want {
			t.Fatalf("%v: Get(%d): %v, %v, not %v, %v", what, b, r, ok, want, has)
		}
	}
	for i := -1; i <= 9; i++ {
		want, has := p.clean[i]
		if r, ok := x.Node(i); ok != has || r != want {
			t.Fatalf("%v: Node(%d): %v, %v, not %v, %v", what, i, r, ok, want, has)
		}
		if got, want := x.Page(i), p.page(i); got != want {
			t.Fatalf("%v: Page(%d): %v, not %v", what, i, got, want)
		}
	}
	if got, want := x.Mapped(), len(p.blocks); got != want {
		t.Fatalf("%v: Mapped: %d, not %d", what, got, want)
	}
	if got, want := x.Dirty(), p.dirty(); !slices.Equal(got, want) {
		t.Fatalf("%v: Dirty: %v, not %v", what, got, want)
	}
	if got, want := x.Refs(), p.refs(); !slices.Equal(got, want) {
		t.Fatalf("%v: Refs: %v, not %v", what, got, want)
	}
}

// alike tells of two trees that do not tell the same.
func alike(t *testing.T, what any, a, b *tree.Tree) {
	t.Helper()
	if !slices.Equal(a.Refs(), b.Refs()) || !slices.Equal(a.Dirty(), b.Dirty()) || a.Mapped() != b.Mapped() {
		t.Fatalf("%v: %v, %v, not %v, %v", what, a.Refs(), a.Dirty(), b.Refs(), b.Dirty())
	}
	for i := -1; i <= 64; i++ {
		r, is := a.Get(i)
		s, has := b.Get(i)
		n, clean := a.Node(i)
		m, saved := b.Node(i)
		if r != s || is != has || n != m || clean != saved || a.Page(i) != b.Page(i) {
			t.Fatalf("%v: unlike at %d", what, i)
		}
	}
}

// alive tells of a tree in which not these refs are alive, or not these nodes dirty.
func alive(t *testing.T, x *tree.Tree, dirty []int, l ...int) {
	t.Helper()
	if got := x.Refs(); !slices.Equal(got, refs(l...)) {
		t.Errorf("Refs: %v, not those at %v", got, l)
	}
	if got := x.Dirty(); !slices.Equal(got, dirty) {
		t.Errorf("Dirty: %v, not %v", got, dirty)
	}
}

// dead tells of refs that are not these.
func dead(t *testing.T, got []api.Ref, l ...int) {
	t.Helper()
	if !slices.Equal(got, refs(l...)) {
		t.Errorf("dead: %v, not those at %v", got, l)
	}
}

// answers tells of an error that is not the one that should be.
func answers(t *testing.T, got, want api.Errno) {
	t.Helper()
	if got != want {
		t.Errorf("%d, not %d", got, want)
	}
}

// stays tells of a call that changes a tree.
func stays(t *testing.T, what any, x *tree.Tree, call func()) {
	t.Helper()
	was := *x
	call()
	alike(t, what, x, &was)
}

// saves saves all that is dirty, in order, at at and the places behind it.
func saves(t *testing.T, x *tree.Tree, at int) {
	t.Helper()
	for _, i := range x.Dirty() {
		r := ref(at)
		if i == 0 && x.Mapped() == 0 {
			r = api.Ref{}
		}
		answers(t, x.Saved(i, r), api.OK)
		at++
	}
}

// two is a tree with the blocks 9 at 7 and 10 at 11, all saved: the leaf 2 at 20, the root at 21.
func two(t *testing.T) *tree.Tree {
	t.Helper()
	x := tree.New()
	dead(t, x.Set(9, ref(7)))
	dead(t, x.Set(10, ref(11)))
	saves(t, x, 20)
	alive(t, x, nil, 7, 11, 21, 20)
	return x
}

// The chapter's examples.
func TestExamples(t *testing.T) {
	x := tree.New()
	dead(t, x.Set(9, ref(7)))
	alive(t, x, []int{2, 0}, 7)
	for _, i := range []int{0, 2} {
		if r, ok := x.Node(i); ok || r != (api.Ref{}) {
			t.Errorf("Node(%d): %v, %v", i, r, ok)
		}
	}
	answers(t, x.Saved(0, ref(8)), api.ErrState)
	answers(t, x.Saved(2, ref(8)), api.OK)
	answers(t, x.Saved(0, ref(9)), api.OK)
	alive(t, x, nil, 7, 9, 8)
	dead(t, x.Set(10, ref(11)), 8, 9)
	alive(t, x, []int{2, 0}, 7, 11)
	dead(t, x.Del(9), 7)
	dead(t, x.Del(10), 11)
	alive(t, x, []int{0})
	answers(t, x.Saved(0, ref(5)), api.ErrRange)
	answers(t, x.Saved(0, api.Ref{}), api.OK)
	if r, ok := x.Node(0); !ok || r != (api.Ref{}) {
		t.Errorf("Node(0): %v, %v", r, ok)
	}
}

// P18.1: a new tree has no block's ref; its root is clean, with the zero ref, and no other node is there.
func TestNew(t *testing.T) {
	newPlain().same(t, "New", tree.New())
	x := tree.New()
	dead(t, x.Set(0, ref(3)))
	newPlain().same(t, "another New", tree.New())
}

// P18.1: each block has the ref that it was given, whatever the others have, and all are told by blocks.
func TestGetOfEach(t *testing.T) {
	x, p := tree.New(), newPlain()
	for k := range 64 {
		b := (k * 37) % 64
		dead(t, x.Set(b, ref(100+b)))
		p.set(b, ref(100+b))
		p.same(t, b, x)
	}
	if x.Mapped() != 64 {
		t.Error("Mapped:", x.Mapped())
	}
	for k := range 64 {
		b := (k * 29) % 64
		dead(t, x.Del(b), 100+b)
		p.del(b)
		p.same(t, b, x)
	}
}

// P18.1, P18.5: of no block and no node there is nothing.
func TestNoneThere(t *testing.T) {
	full := tree.New()
	for b := range 64 {
		full.Set(b, ref(3+b))
	}
	saves(t, full, 100)
	for _, x := range []*tree.Tree{tree.New(), two(t), full} {
		for _, b := range noBlocks {
			if r, ok := x.Get(b); ok || r != (api.Ref{}) {
				t.Errorf("Get(%d): %v, %v", b, r, ok)
			}
		}
		for _, i := range noNodes {
			if r, ok := x.Node(i); ok || r != (api.Ref{}) {
				t.Errorf("Node(%d): %v, %v", i, r, ok)
			}
			if p := x.Page(i); p != (api.Page{}) {
				t.Errorf("Page(%d): %v", i, p)
			}
		}
	}
}

// P18.1: clean nodes are told by index, behind the blocks; the root's zero ref is not told.
func TestRefsOrder(t *testing.T) {
	x := tree.New()
	for i, b := range []int{63, 0, 20, 8, 62, 1} {
		dead(t, x.Set(b, ref(50-i)))
	}
	alive(t, x, []int{1, 2, 3, 8, 0}, 49, 45, 47, 48, 46, 50)
	answers(t, x.Saved(8, ref(90)), api.OK)
	answers(t, x.Saved(1, ref(99)), api.OK)
	answers(t, x.Saved(3, ref(4)), api.OK)
	alive(t, x, []int{2, 0}, 49, 45, 47, 48, 46, 50, 99, 4, 90)
	answers(t, x.Saved(2, ref(5)), api.OK)
	answers(t, x.Saved(0, ref(6)), api.OK)
	alive(t, x, nil, 49, 45, 47, 48, 46, 50, 6, 99, 5, 4, 90)

	y := tree.New()
	answers(t, y.Load(5, api.Page{Refs: [8]api.Ref{7: ref(9)}}, ref(8)), api.OK)
	alive(t, y, nil, 9, 8)
}

// P18.2: nothing is set of no block, nor to a ref without an At above 0.
func TestSetNothing(t *testing.T) {
	for _, x := range []*tree.Tree{tree.New(), two(t)} {
		for _, b := range noBlocks {
			for _, r := range []api.Ref{ref(30), {}, {At: -1}} {
				stays(t, b, x, func() { dead(t, x.Set(b, r)) })
			}
		}
		for b := range 64 {
			for _, r := range nowhere {
				stays(t, r, x, func() { dead(t, x.Set(b, r)) })
			}
		}
	}
}

// P18.2: any ref with an At above 0 is a block's, with all of its Sum.
func TestSetAnywhere(t *testing.T) {
	x := tree.New()
	for _, b := range []int{0, 7, 8, 63} {
		var was []api.Ref
		for _, r := range somewhere {
			if got := x.Set(b, r); !slices.Equal(got, was) {
				t.Errorf("Set(%d, %v): dead %v, not %v", b, r, got, was)
			}
			if got, ok := x.Get(b); !ok || got != r {
				t.Errorf("Get(%d): %v, %v, not %v", b, got, ok, r)
			}
			was = []api.Ref{r}
		}
	}
}

// P18.2: dead are the block's, the leaf's, the root's, in this order, of those nodes that were clean; other leaves stay.
func TestSetDead(t *testing.T) {
	x := two(t)
	dead(t, x.Set(9, ref(30)), 7, 20, 21)
	alive(t, x, []int{2, 0}, 30, 11)
	dead(t, x.Set(9, ref(31)), 30)
	dead(t, x.Set(9, ref(31)), 31)
	alive(t, x, []int{2, 0}, 31, 11)

	x = two(t)
	dead(t, x.Set(15, ref(30)), 20, 21)
	x = two(t)
	dead(t, x.Set(16, ref(30)), 21)
	alive(t, x, []int{3, 0}, 7, 11, 30, 20)
	dead(t, x.Set(8, ref(31)), 20)
	alive(t, x, []int{2, 3, 0}, 31, 7, 11, 30)
	x = two(t)
	dead(t, x.Touch(0), 21)
	dead(t, x.Set(9, ref(7)), 7, 20)

	y := tree.New()
	answers(t, y.Load(2, api.Page{Refs: [8]api.Ref{1: ref(7)}}, ref(20)), api.OK)
	dead(t, y.Set(9, ref(8)), 7, 20)
}

// P18.3: nothing is taken from a block without a ref, nor from no block.
func TestDelNothing(t *testing.T) {
	for _, x := range []*tree.Tree{tree.New(), two(t)} {
		for b := range 64 {
			if _, ok := x.Get(b); !ok {
				stays(t, b, x, func() { dead(t, x.Del(b)) })
			}
		}
		for _, b := range noBlocks {
			stays(t, b, x, func() { dead(t, x.Del(b)) })
		}
	}
}

// P18.3: dead are as behind a Set; a leaf without blocks is no more, and its ref is dead, too.
func TestDelDead(t *testing.T) {
	x := two(t)
	dead(t, x.Del(9), 7, 20, 21)
	alive(t, x, []int{2, 0}, 11)
	dead(t, x.Del(9))
	dead(t, x.Del(10), 11)
	alive(t, x, []int{0})

	x = two(t)
	dead(t, x.Del(10), 11, 20, 21)
	saves(t, x, 40)
	dead(t, x.Del(9), 7, 40, 41)
	alive(t, x, []int{0})
	if r, ok := x.Node(2); ok || r != (api.Ref{}) {
		t.Error("a leaf that is gone:", r, ok)
	}
	answers(t, x.Saved(2, ref(5)), api.ErrState)
	dead(t, x.Touch(2))
	alive(t, x, []int{0})
	// What is there again is a leaf as a new one.
	dead(t, x.Set(9, ref(50)))
	alive(t, x, []int{2, 0}, 50)

	x = two(t)
	dead(t, x.Touch(2), 20, 21)
	dead(t, x.Del(9), 7)
	x = two(t)
	dead(t, x.Set(0, ref(60)), 21)
	dead(t, x.Del(9), 7, 20)
	dead(t, x.Del(0), 60)
	alive(t, x, []int{2, 0}, 11)
}

// P18.4: nothing is touched but a clean node whose ref has an At above 0.
func TestTouchNothing(t *testing.T) {
	y := tree.New()
	dead(t, y.Set(9, ref(7)))
	for _, x := range []*tree.Tree{tree.New(), y} {
		for _, i := range append([]int{0, 1, 2, 3, 8}, noNodes...) {
			stays(t, i, x, func() { dead(t, x.Touch(i)) })
		}
	}
	x := two(t)
	for _, i := range append([]int{1, 3, 4, 5, 6, 7, 8}, noNodes...) {
		stays(t, i, x, func() { dead(t, x.Touch(i)) })
	}
}

// P18.4: a node that is touched is dirty, with the root; dead are both refs, the leaf's first, the root's once.
func TestTouch(t *testing.T) {
	x := two(t)
	dead(t, x.Touch(2), 20, 21)
	alive(t, x, []int{2, 0}, 7, 11)
	dead(t, x.Touch(2))
	dead(t, x.Touch(0))

	x = two(t)
	dead(t, x.Touch(0), 21)
	alive(t, x, []int{0}, 7, 11, 20)
	dead(t, x.Touch(0))
	dead(t, x.Touch(2), 20)
	alive(t, x, []int{2, 0}, 7, 11)

	// The root may be clean, with the zero ref, above a leaf that was loaded.
	y := tree.New()
	answers(t, y.Load(1, api.Page{Refs: [8]api.Ref{ref(7)}}, ref(8)), api.OK)
	dead(t, y.Touch(0))
	alive(t, y, nil, 7, 8)
	dead(t, y.Touch(1), 8)
	alive(t, y, []int{1, 0}, 7)
}

// P18.5: the root has the refs of the leaves that are clean, and zero refs of the others.
func TestRootPage(t *testing.T) {
	x := tree.New()
	for leaf := 1; leaf <= 8; leaf++ {
		dead(t, x.Set(8*leaf-leaf, ref(10*leaf)))
		if p := x.Page(0); p != (api.Page{}) {
			t.Error("a root over dirty leaves:", p)
		}
	}
	var want api.Page
	for _, leaf := range []int{5, 1, 8, 2, 7, 3, 6, 4} {
		answers(t, x.Saved(leaf, ref(100+leaf)), api.OK)
		want.Refs[leaf-1] = ref(100 + leaf)
		if p := x.Page(0); p != want {
			t.Errorf("the root: %v, not %v", p, want)
		}
		if p := x.Page(leaf); p.Refs[8-leaf] != ref(10*leaf) {
			t.Errorf("the leaf %d: %v", leaf, p)
		}
	}
	answers(t, x.Saved(0, ref(100)), api.OK)
	if p := x.Page(0); p != want {
		t.Errorf("the root: %v, not %v", p, want)
	}
	dead(t, x.Touch(4), 104, 100)
	want.Refs[3] = api.Ref{}
	if p := x.Page(0); p != want {
		t.Errorf("the root: %v, not %v", p, want)
	}
}

// P18.5: the dirty leaves are told rising, whatever the order in which they became so, and the root behind them.
func TestDirtyOrder(t *testing.T) {
	x := tree.New()
	for _, b := range []int{63, 17, 0, 40, 33} {
		dead(t, x.Set(b, ref(3+b)))
	}
	for _, want := range [][]int{{1, 3, 5, 6, 8, 0}, {1, 3, 6, 8, 0}, {1, 3, 6, 0}, {3, 6, 0}, {6, 0}, {0}, nil} {
		if got := x.Dirty(); !slices.Equal(got, want) {
			t.Errorf("%v, not %v", got, want)
		}
		for _, i := range []int{5, 8, 1, 3, 6, 0} {
			if slices.Contains(want, i) {
				answers(t, x.Saved(i, ref(100+i)), api.OK)
				break
			}
		}
	}
}

// P18.6: ErrState goes ahead of ErrRange; neither changes anything.
func TestSavedRefused(t *testing.T) {
	dirty := tree.New()
	dead(t, dirty.Set(9, ref(7)))
	dead(t, dirty.Set(0, ref(8)))
	answers(t, dirty.Saved(1, ref(9)), api.OK)
	root := two(t)
	dead(t, root.Touch(0), 21)
	empty := two(t)
	dead(t, empty.Del(9), 7, 20, 21)
	dead(t, empty.Del(10), 11)
	for k, x := range []*tree.Tree{tree.New(), two(t), dirty, root, empty} {
		may := map[int]bool{}
		for _, i := range x.Dirty() {
			may[i] = i != 0 || len(x.Dirty()) == 1
		}
		for _, i := range append([]int{0, 1, 2, 3, 4, 5, 6, 7, 8}, noNodes...) {
			for _, r := range nowhere {
				want := api.ErrState
				if may[i] {
					want = api.ErrRange
				}
				if k == 4 && i == 0 && r == (api.Ref{}) {
					continue // that one may be saved
				}
				stays(t, i, x, func() { answers(t, x.Saved(i, r), want) })
			}
			for _, r := range somewhere {
				if may[i] && k != 4 {
					continue
				}
				want := api.ErrState
				if may[i] {
					want = api.ErrRange
				}
				stays(t, i, x, func() { answers(t, x.Saved(i, r), want) })
			}
		}
	}
}

// P18.6: what is saved is clean, with any ref whose At is above 0; the root over no leaf with the zero one alone.
func TestSaved(t *testing.T) {
	for _, r := range somewhere {
		x := tree.New()
		dead(t, x.Set(63, ref(7)))
		answers(t, x.Saved(8, r), api.OK)
		answers(t, x.Saved(8, r), api.ErrState)
		if got, ok := x.Node(8); !ok || got != r || x.Page(0).Refs[7] != r {
			t.Errorf("the leaf: %v, %v, not %v", got, ok, r)
		}
		answers(t, x.Saved(0, r), api.OK)
		answers(t, x.Saved(0, r), api.ErrState)
		if got, ok := x.Node(0); !ok || got != r {
			t.Errorf("the root: %v, %v, not %v", got, ok, r)
		}
	}
	x := two(t)
	dead(t, x.Del(9), 7, 20, 21)
	dead(t, x.Del(10), 11)
	answers(t, x.Saved(0, api.Ref{}), api.OK)
	newPlain().same(t, "empty again", x)
	answers(t, x.Saved(0, api.Ref{}), api.ErrState)
	// A root that leads nowhere may be loaded over.
	answers(t, x.Load(0, api.Page{}, ref(5)), api.OK)
	alive(t, x, nil, 5)
	dead(t, x.Touch(0), 5)
	answers(t, x.Saved(0, ref(6)), api.ErrRange)
	answers(t, x.Saved(0, api.Ref{}), api.OK)
}

// P18.7: which error is the first one; none of them changes anything.
func TestLoadRefused(t *testing.T) {
	good := api.Page{Refs: [8]api.Ref{1: ref(40)}}
	bad := api.Page{Refs: [8]api.Ref{nowhere[0], nowhere[1], nowhere[2], nowhere[3], nowhere[4], nowhere[5], nowhere[7], nowhere[8]}}
	pages := []api.Page{good, bad, {}}
	dirty := tree.New()
	dead(t, dirty.Set(0, ref(7)))
	root := tree.New()
	answers(t, root.Load(0, api.Page{}, ref(5)), api.OK)
	touched := two(t)
	dead(t, touched.Touch(2), 20, 21)
	for _, x := range []*tree.Tree{tree.New(), two(t), dirty, root, touched} {
		for _, p := range pages {
			for _, i := range noNodes {
				for _, r := range []api.Ref{ref(41), {}, {At: -5}} {
					stays(t, i, x, func() { answers(t, x.Load(i, p, r), api.ErrRange) })
				}
			}
			for i := range 9 {
				for _, r := range nowhere {
					stays(t, i, x, func() { answers(t, x.Load(i, p, r), api.ErrRange) })
				}
			}
		}
	}
	state := []struct {
		x *tree.Tree
		l []int
	}{{two(t), []int{0, 2}}, {dirty, []int{0, 1}}, {root, []int{0}}, {touched, []int{0, 2}}}
	for _, s := range state {
		for _, i := range s.l {
			for _, p := range pages {
				for _, r := range somewhere {
					stays(t, i, s.x, func() { answers(t, s.x.Load(i, p, r), api.ErrState) })
				}
			}
		}
	}
	for _, x := range []*tree.Tree{tree.New(), root, two(t), touched} {
		for _, i := range []int{1, 3, 4, 5, 6, 7, 8} {
			for _, p := range pages[1:] {
				stays(t, i, x, func() { answers(t, x.Load(i, p, ref(9)), api.ErrRange) })
			}
		}
	}
}

// P18.7: a leaf that is loaded is clean, with its blocks; refs without an At above 0 are none of a block.
func TestLoadLeaf(t *testing.T) {
	for leaf := 1; leaf <= 8; leaf++ {
		for i := range 8 {
			for k, r := range somewhere {
				x, p := tree.New(), newPlain()
				n := api.Page{}
				for j := range n.Refs {
					n.Refs[j] = nowhere[(i+j+k)%len(nowhere)]
				}
				n.Refs[i] = r
				answers(t, x.Load(leaf, n, r), api.OK)
				p.blocks[8*leaf-8+i], p.clean[leaf] = r, r
				p.same(t, leaf, x)
				dead(t, x.Touch(0)) // the root stays clean, with the zero ref
			}
		}
	}
}

// P18.7: a leaf may be loaded whatever the root is, and leaves it so.
func TestLoadUnderRoot(t *testing.T) {
	n := api.Page{Refs: [8]api.Ref{2: ref(40), 5: ref(41)}}
	dirty := tree.New()
	dead(t, dirty.Set(0, ref(7)))
	answers(t, dirty.Load(3, n, ref(42)), api.OK)
	alive(t, dirty, []int{1, 0}, 7, 40, 41, 42)
	x := two(t)
	answers(t, x.Load(3, n, ref(42)), api.OK)
	alive(t, x, nil, 7, 11, 40, 41, 21, 20, 42)
	if p := x.Page(0); p != (api.Page{Refs: [8]api.Ref{1: ref(20), 2: ref(42)}}) {
		t.Error("the root:", p)
	}
}

// P18.7: of the root, the node is not looked at: it is clean, with the ref, whatever its leaves are.
func TestLoadRoot(t *testing.T) {
	for _, r := range somewhere {
		for _, n := range []api.Page{{}, {Refs: [8]api.Ref{ref(9), {}, ref(10)}}, {Refs: [8]api.Ref{3: {At: -1}}}} {
			x, p := tree.New(), newPlain()
			answers(t, x.Load(0, n, r), api.OK)
			p.clean[0] = r
			p.same(t, r, x)

			y, q := tree.New(), newPlain()
			answers(t, y.Load(6, api.Page{Refs: [8]api.Ref{ref(3)}}, ref(4)), api.OK)
			answers(t, y.Load(0, n, r), api.OK)
			q.blocks[40], q.clean[6], q.clean[0] = ref(3), ref(4), r
			q.same(t, r, y)
		}
	}
}

// P18.7: what was handed in may be changed behind it, and is not changed by what comes later (R3).
func TestLoadTakesACopy(t *testing.T) {
	n := api.Page{Refs: [8]api.Ref{1: ref(7), 3: {At: -4}}}
	was := n
	x := tree.New()
	answers(t, x.Load(2, n, ref(3)), api.OK)
	dead(t, x.Set(9, ref(50)), 7, 3)
	if n != was {
		t.Error("changed:", n)
	}
	n.Refs[1] = ref(60)
	if r, _ := x.Get(9); r != ref(50) {
		t.Error("kept:", r)
	}
}

// R3: each answer is new memory, to the end of its spare room; asked again, it is the same (R4).
func TestAnswersAreNew(t *testing.T) {
	x := two(t)
	before := two(t)
	lists := []func() []api.Ref{
		x.Refs,
		func() []api.Ref { y := *x; return y.Set(9, ref(30)) },
		func() []api.Ref { y := *x; return y.Del(9) },
		func() []api.Ref { y := *x; return y.Touch(2) },
	}
	for i, f := range lists {
		a := f()
		b := f()
		want := slices.Clone(b)
		for j := range a[:cap(a)] {
			a[:cap(a)][j] = ref(999)
		}
		if c := f(); !slices.Equal(b, want) || !slices.Equal(c, want) {
			t.Errorf("%d: %v, %v, not %v", i, b, c, want)
		}
		alike(t, i, x, before)
	}
	dirty := tree.New()
	dirty.Set(9, ref(7))
	a, b := dirty.Dirty(), dirty.Dirty()
	for j := range a[:cap(a)] {
		a[:cap(a)][j] = 77
	}
	if !slices.Equal(b, []int{2, 0}) || !slices.Equal(dirty.Dirty(), []int{2, 0}) {
		t.Error("Dirty:", b, dirty.Dirty())
	}
}

// Dead refs behind a Set, a Del and a Touch of the tree itself are no memory of it: what is written there changes nothing.
func TestDeadAreNew(t *testing.T) {
	for _, call := range []func(x *tree.Tree) []api.Ref{
		func(x *tree.Tree) []api.Ref { return x.Set(9, ref(30)) },
		func(x *tree.Tree) []api.Ref { return x.Del(9) },
		func(x *tree.Tree) []api.Ref { return x.Touch(2) },
		func(x *tree.Tree) []api.Ref { return x.Touch(0) },
		func(x *tree.Tree) []api.Ref { return x.Refs() },
	} {
		x, y := two(t), two(t)
		got := call(x)
		call(y)
		for j := range got[:cap(got)] {
			got[:cap(got)][j] = ref(999)
		}
		alike(t, "written over", x, y)
	}
}

// Two trees know nothing of one another.
func TestApart(t *testing.T) {
	x, y := two(t), tree.New()
	dead(t, y.Set(9, ref(90)))
	dead(t, x.Del(10), 11, 20, 21)
	alive(t, y, []int{2, 0}, 90)
	alive(t, x, []int{2, 0}, 7)
}

// without are the refs of l but those that are dead, each taken away once: the chapter's accounts hold for refs that stand there twice, too.
func without(t *testing.T, l, gone []api.Ref) []api.Ref {
	t.Helper()
	l = slices.Clone(l)
	for _, r := range gone {
		i := slices.Index(l, r)
		if i < 0 {
			t.Fatalf("dead: %v, which was not alive", r)
		}
		l = slices.Delete(l, i, i+1)
	}
	return l
}

// sorted are refs by their places, and then by their sums.
func sorted(l []api.Ref) []api.Ref {
	l = slices.Clone(l)
	slices.SortFunc(l, func(a, b api.Ref) int {
		if a.At != b.At {
			if a.At < b.At {
				return -1
			}
			return 1
		}
		return bytes.Compare(a.Sum[:], b.Sum[:])
	})
	return l
}

// step is a call, of a tree and of the plain one, which holds their answers against each other.
type step func(t *testing.T, x *tree.Tree, p *plain)

// setting, deleting, touching, saving, loading are the calls that change something; the first four hold the accounts (P18.8), too.
func setting(block int, r api.Ref) step {
	return func(t *testing.T, x *tree.Tree, p *plain) {
		was := x.Refs()
		got, want := x.Set(block, r), p.set(block, r)
		if !slices.Equal(got, want) {
			t.Fatalf("Set(%d, %v): %v, not %v", block, r, got, want)
		}
		now := without(t, was, got)
		if block >= 0 && block < 64 && r.At > 0 {
			now = append(now, r)
		}
		accounts(t, x, now)
	}
}

func deleting(block int) step {
	return losing(func(x *tree.Tree, p *plain) ([]api.Ref, []api.Ref) { return x.Del(block), p.del(block) })
}

func touching(index int) step {
	return losing(func(x *tree.Tree, p *plain) ([]api.Ref, []api.Ref) { return x.Touch(index), p.touch(index) })
}

// losing is a call behind which just those refs are alive that were ahead, but for the dead ones.
func losing(call func(x *tree.Tree, p *plain) (got, want []api.Ref)) step {
	return func(t *testing.T, x *tree.Tree, p *plain) {
		was := x.Refs()
		got, want := call(x, p)
		if !slices.Equal(got, want) {
			t.Fatalf("dead: %v, not %v", got, want)
		}
		accounts(t, x, without(t, was, got))
	}
}

func saving(index int, r api.Ref) step {
	return func(t *testing.T, x *tree.Tree, p *plain) {
		now := x.Refs()
		got, want := x.Saved(index, r), p.saved(index, r)
		if got != want {
			t.Fatalf("Saved(%d, %v): %v, not %v", index, r, got, want)
		}
		if got == api.OK && r.At > 0 {
			now = append(now, r)
		}
		accounts(t, x, now)
	}
}

func loading(index int, n api.Page, r api.Ref) step {
	return func(t *testing.T, x *tree.Tree, p *plain) {
		if got, want := x.Load(index, n, r), p.load(index, n, r); got != want {
			t.Fatalf("Load(%d, %v, %v): %v, not %v", index, n, r, got, want)
		}
	}
}

// accounts tells of a tree in which other refs are alive than these, in any order.
func accounts(t *testing.T, x *tree.Tree, want []api.Ref) {
	t.Helper()
	if got, want := sorted(x.Refs()), sorted(want); !slices.Equal(got, want) {
		t.Fatalf("alive: %v, not %v", got, want)
	}
}

// P18.1 to P18.8: each run of four of some calls, held against the chapter's words.
func TestShortRuns(t *testing.T) {
	n := api.Page{Refs: [8]api.Ref{1: ref(6), 2: {At: -3}}}
	steps := []step{
		setting(0, ref(3)), setting(7, ref(4)), setting(8, ref(3)),
		deleting(0), deleting(8), deleting(1),
		touching(0), touching(1), touching(2),
		saving(1, ref(11)), saving(2, ref(12)), saving(0, ref(13)), saving(0, api.Ref{}),
		loading(1, n, ref(14)), loading(0, n, ref(15)), loading(2, api.Page{}, ref(16)),
	}
	var run func(depth int, x tree.Tree, p plain)
	run = func(depth int, x tree.Tree, p plain) {
		p.same(t, depth, &x)
		if depth == 0 {
			return
		}
		for _, s := range steps {
			y, q := x, plain{map[int]api.Ref{}, map[int]api.Ref{}}
			for b, r := range p.blocks {
				q.blocks[b] = r
			}
			for i, r := range p.clean {
				q.clean[i] = r
			}
			s(t, &y, &q)
			run(depth-1, y, q)
		}
	}
	run(4, *tree.New(), *newPlain())
}

// pick is one of a list, by chance.
func pick[T any](rnd *rand.Rand, l []T) T { return l[rnd.Intn(len(l))] }

// anyStep is a call by chance: most of them of blocks and nodes that there are, and some of none.
func anyStep(rnd *rand.Rand, blocks int) step {
	block, index := rnd.Intn(blocks), rnd.Intn(9)
	r := ref(1 + rnd.Intn(300))
	if rnd.Intn(12) == 0 {
		block, index = pick(rnd, noBlocks), pick(rnd, noNodes)
	}
	if rnd.Intn(12) == 0 {
		r = pick(rnd, append(nowhere, somewhere...))
	}
	switch rnd.Intn(10) {
	case 0, 1, 2:
		return setting(block, r)
	case 3, 4:
		return deleting(block)
	case 5:
		return touching(index)
	case 6, 7:
		return saving(index, r)
	case 8:
		return saving(0, pick(rnd, []api.Ref{{}, r}))
	}
	var n api.Page
	for i := range n.Refs {
		if rnd.Intn(3) == 0 {
			n.Refs[i] = pick(rnd, []api.Ref{ref(1 + rnd.Intn(300)), pick(rnd, nowhere), pick(rnd, somewhere)})
		}
	}
	return loading(index, n, r)
}

// P18.1 to P18.8: long runs by chance, in small parts of the tree and in all of it.
func TestLongRuns(t *testing.T) {
	for seed := range 60 {
		rnd := rand.New(rand.NewSource(int64(seed)))
		x, p := tree.New(), newPlain()
		blocks := pick(rnd, []int{2, 9, 17, 64})
		for k := range 400 {
			anyStep(rnd, blocks)(t, x, p)
			p.same(t, k, x)
		}
	}
}

// P18.9: when all dirty nodes are saved in order, none is, and a new tree that loads them is the same.
func TestBack(t *testing.T) {
	for seed := range 200 {
		rnd := rand.New(rand.NewSource(int64(1000 + seed)))
		x, p := tree.New(), newPlain()
		blocks := pick(rnd, []int{1, 9, 30, 64})
		for range rnd.Intn(120) {
			anyStep(rnd, blocks)(t, x, p)
		}
		saves(t, x, 1000)
		if l := x.Dirty(); len(l) != 0 {
			t.Fatalf("%d: still dirty: %v", seed, l)
		}
		y := tree.New()
		for _, i := range rnd.Perm(9) {
			r, ok := x.Node(i)
			if !ok || r == (api.Ref{}) {
				continue // a leaf that is not there, or a root that was never saved
			}
			answers(t, y.Load(i, x.Page(i), r), api.OK)
		}
		alike(t, seed, y, x)
	}
}

// P18.9: the pages that are saved are nodes as page has them, and go through its bytes.
func TestBackThroughBytes(t *testing.T) {
	x, y := tree.New(), tree.New()
	for b := 0; b < 64; b += 5 {
		dead(t, x.Set(b, ref(100+b)))
	}
	saves(t, x, 300)
	for i := range 9 {
		b, e := page.Put(i, x.Page(i))
		answers(t, e, api.OK)
		index, n, e := page.Get(b)
		answers(t, e, api.OK)
		r, ok := x.Node(i)
		if !ok || index != i {
			t.Fatal("no node:", i)
		}
		answers(t, y.Load(index, n, r), api.OK)
	}
	alike(t, "through bytes", y, x)
}
