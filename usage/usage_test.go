package usage_test

import (
	"bytes"
	"math"
	"math/big"
	"math/rand"
	"slices"
	"testing"

	"rill/api"
	"rill/usage"
)

// most is MaxNumber, written out.
const most = 1099511627776

// far are numbers that are out of every place, among them those that wrap round into one when they are cut, or reckoned with.
var far = []int{
	-65, -66, -255, -256, -1 << 31, -1<<31 + 2, -1 << 32, -1<<32 + 2, -1<<32 + 64, -most - 1, -most, -most + 5, -1 << 62, -1<<62 + 1,
	-math.MaxInt, math.MinInt, math.MinInt + 1, math.MinInt + 2, math.MinInt + 64,
	most + 1, most + 2, most + 64, 2 * most, 1 << 48, 1<<56 + 3, 1 << 62, 1<<62 + 2, 3 << 61,
	math.MaxInt - 64, math.MaxInt - 63, math.MaxInt - 1, math.MaxInt,
}

// beyond are numbers above all but an Age's or a now's place.
var beyond = []int{65, 66, 128, 255, 256, 256 + 2, 1 << 16, 1<<16 + 3, 1<<31 - 1, 1 << 31, 1 << 32, 1<<32 + 1, 1<<32 + 64, most - 1, most}

// nows are numbers in a now's place, and below and above it, with what each is cut to.
var nows = []struct{ now, age int }{
	{0, 0}, {1, 1}, {5, 5}, {255, 255}, {256, 256}, {1<<31 - 1, 1<<31 - 1}, {1 << 31, 1 << 31}, {1<<32 + 7, 1<<32 + 7}, {most - 1, most - 1}, {most, most},
	{-1, 0}, {-2, 0}, {-most, 0}, {-1<<32 + 5, 0}, {math.MinInt + 1, 0}, {math.MinInt, 0},
	{most + 1, most}, {most + 2, most}, {2 * most, most}, {1<<48 + 5, most}, {1 << 62, most}, {math.MaxInt - 1, most}, {math.MaxInt, most},
}

// all are the states.
var all = []int{api.Free, api.Open, api.Full, api.Pending}

// row names a row by its numbers.
func row(state, live, age int) api.Seg { return api.Seg{State: state, Live: live, Age: age} }

// noSegs are numbers of segments that a table of n has not.
func noSegs(n int) []int { return slices.Concat([]int{-1, -2, n, n + 1, 32, 33, 64}, beyond, far) }

// made is a new table with these rows, the last one set first: what Set does hangs on no order of segments.
func made(t *testing.T, l ...api.Seg) *usage.Table {
	t.Helper()
	u := usage.New(len(l))
	for i := len(l) - 1; i >= 0; i-- {
		answers(t, u.Set(i, l[i]), api.OK)
	}
	is(t, u, l...)
	return u
}

// answers tells of an error that is not the one that should be.
func answers(t *testing.T, got, want api.Errno) {
	t.Helper()
	if got != want {
		t.Errorf("%d, not %d", got, want)
	}
}

// is tells of a table that has not just these rows, in all that it tells.
func is(t *testing.T, u *usage.Table, want ...api.Seg) {
	t.Helper()
	if got := u.Segs(); !slices.Equal(got, want) {
		t.Errorf("Segs: %v, not %v", got, want)
	}
	open, counts := -1, [4]int{}
	for i, x := range want {
		counts[x.State]++
		if x.State == api.Open {
			open = i
		}
	}
	if got := u.Open(); got != open {
		t.Errorf("Open of %v: %d, not %d", want, got, open)
	}
	for _, s := range all {
		if got := u.Count(s); got != counts[s] {
			t.Errorf("Count(%d) of %v: %d, not %d", s, want, got, counts[s])
		}
	}
}

// takes tells of a table that does not take this segment.
func takes(t *testing.T, u *usage.Table, now, want int) {
	t.Helper()
	if got, ok := u.Take(now); got != want || !ok {
		t.Errorf("Take(%d): %d, %v, not %d", now, got, ok, want)
	}
}

// takesNone tells of a table that takes one, or is another one behind it.
func takesNone(t *testing.T, u *usage.Table, now int) {
	t.Helper()
	was := u.Segs()
	if got, ok := u.Take(now); got != 0 || ok {
		t.Errorf("Take(%d) of %v: %d, %v, not none", now, was, got, ok)
	}
	is(t, u, was...)
}

// refuses tells of a call that does not answer this error, or changes something.
func refuses(t *testing.T, u *usage.Table, want api.Errno, call func() api.Errno) {
	t.Helper()
	was := u.Segs()
	if got := call(); got != want {
		t.Errorf("of %v: %d, not %d", was, got, want)
	}
	is(t, u, was...)
}

// setsNot tells of a row that is not refused by this error alone.
func setsNot(t *testing.T, u *usage.Table, seg int, x api.Seg, want api.Errno) {
	t.Helper()
	refuses(t, u, want, func() api.Errno { return u.Set(seg, x) })
}

// addsNot tells of an Add that is not refused with ErrRange alone.
func addsNot(t *testing.T, u *usage.Table, seg, n, now int) {
	t.Helper()
	refuses(t, u, api.ErrRange, func() api.Errno { return u.Add(seg, n, now) })
}

// pendsNot tells of a Pend that is not refused by this error alone.
func pendsNot(t *testing.T, u *usage.Table, seg int, want api.Errno) {
	t.Helper()
	refuses(t, u, want, func() api.Errno { return u.Pend(seg) })
}

// releases tells of a Release that does not free so many.
func releases(t *testing.T, u *usage.Table, want int) {
	t.Helper()
	if got := u.Release(); got != want {
		t.Errorf("Release: %d, not %d", got, want)
	}
}

// The chapter's examples.
func TestExamples(t *testing.T) {
	u := usage.New(3)
	takes(t, u, 5, 0)
	takes(t, u, 7, 1)
	is(t, u, row(api.Full, 0, 5), row(api.Open, 0, 7), row(api.Free, 0, 0))
	answers(t, u.Add(0, 2, 9), api.OK)
	answers(t, u.Add(0, -3, 9), api.ErrRange)
	answers(t, u.Add(0, -2, 11), api.OK)
	is(t, u, row(api.Full, 0, 9), row(api.Open, 0, 7), row(api.Free, 0, 0))
	answers(t, u.Pend(1), api.ErrState)
	answers(t, u.Pend(0), api.OK)
	answers(t, u.Pend(0), api.ErrState)
	takes(t, u, 8, 2)
	takesNone(t, u, 8)
	releases(t, u, 1)
	takes(t, u, 8, 0)
}

// P16.1: a table is new with as many segments as it should have, of no segment, of one, and of the most, and cut to these; all are Free, and nothing else.
func TestNew(t *testing.T) {
	for n := range 33 {
		is(t, usage.New(n), make([]api.Seg, n)...)
	}
	for _, n := range slices.Concat([]int{-1, -2, -32, 33, 34, 64}, beyond, far) {
		want := 0
		if n > 0 {
			want = 32
		}
		is(t, usage.New(n), make([]api.Seg, want)...)
	}
}

// P16.1 to P16.5: a table of no segment, also one that was cut to that, refuses all, and has nothing to tell.
func TestNoSegment(t *testing.T) {
	for _, n := range []int{0, -1, math.MinInt} {
		u := usage.New(n)
		takesNone(t, u, 1)
		for _, seg := range append(noSegs(0), 1, 2) {
			setsNot(t, u, seg, row(api.Free, 0, 0), api.ErrRange)
			setsNot(t, u, seg, row(api.Open, 1, 1), api.ErrRange)
			addsNot(t, u, seg, 0, 1)
			pendsNot(t, u, seg, api.ErrRange)
		}
		releases(t, u, 0)
		is(t, u)
	}
}

// P16.1 to P16.5: a table of one segment, which is its Open one, and is not taken again.
func TestOneSegment(t *testing.T) {
	u := usage.New(1)
	takes(t, u, 3, 0)
	is(t, u, row(api.Open, 0, 3))
	takesNone(t, u, 4)
	answers(t, u.Add(0, 1, 5), api.OK)
	is(t, u, row(api.Open, 1, 5))
	pendsNot(t, u, 0, api.ErrState)
	answers(t, u.Set(0, row(api.Full, 0, 6)), api.OK)
	is(t, u, row(api.Full, 0, 6))
	answers(t, u.Pend(0), api.OK)
	takesNone(t, u, 7)
	releases(t, u, 1)
	is(t, u, row(api.Free, 0, 0))
	takes(t, u, 8, 0)
}

// P16.1, P16.4: the greatest table goes up to its last segment.
func TestLastSegment(t *testing.T) {
	u := usage.New(33)
	for i := range 32 {
		takes(t, u, i, i)
	}
	takesNone(t, u, 40)
	answers(t, u.Add(31, 64, 50), api.OK)
	addsNot(t, u, 32, 1, 50)
	answers(t, u.Pend(30), api.OK)
	pendsNot(t, u, 32, api.ErrRange)
	setsNot(t, u, 32, row(api.Free, 0, 0), api.ErrRange)
	if s := u.Segs(); len(s) != 32 || s[31] != row(api.Open, 64, 50) || s[30] != row(api.Pending, 0, 30) || s[29] != row(api.Full, 0, 29) {
		t.Errorf("%v", s)
	}
}

// P16.1: Count of each state, none, one and many of each, and of numbers that are none.
func TestCount(t *testing.T) {
	for _, s := range all {
		for n := range 6 {
			u := usage.New(7)
			for i := range n {
				if s != api.Open || i == 0 {
					answers(t, u.Set(6-i, row(s, i, i)), api.OK)
				}
			}
			want := map[int]int{api.Free: 7}
			if k := n; s != api.Free {
				if s == api.Open {
					k = min(n, 1)
				}
				want = map[int]int{s: k, api.Free: 7 - k}
			}
			for _, of := range all {
				if got := u.Count(of); got != want[of] {
					t.Errorf("Count(%d) of %v: %d, not %d", of, u.Segs(), got, want[of])
				}
			}
		}
	}
	u := made(t, row(api.Full, 1, 1), row(api.Pending, 0, 2), row(api.Open, 3, 3), row(api.Free, 0, 0), row(api.Full, 4, 4))
	for _, of := range slices.Concat([]int{-1, -2, -3, -4, 4, 5, 6, 7, 8}, beyond, far) {
		if got := u.Count(of); got != 0 {
			t.Errorf("Count(%d): %d", of, got)
		}
	}
	is(t, u, row(api.Full, 1, 1), row(api.Pending, 0, 2), row(api.Open, 3, 3), row(api.Free, 0, 0), row(api.Full, 4, 4))
}

// P16.1: Open is the one that is Open, wherever it lies, and whatever the others are.
func TestOpen(t *testing.T) {
	for at := range 32 {
		u := usage.New(32)
		answers(t, u.Set(at, row(api.Open, 0, 0)), api.OK)
		if got := u.Open(); got != at {
			t.Errorf("Open: %d, not %d", got, at)
		}
		answers(t, u.Set(at, row(api.Full, 0, 0)), api.OK)
		if got := u.Open(); got != -1 {
			t.Errorf("Open: %d, not none", got)
		}
	}
}

// P16.2: each number of a row at its least and its greatest, in each state: the segment's row is that, and no other row is another.
func TestSetEnds(t *testing.T) {
	for _, state := range all {
		for _, live := range []int{0, 1, 2, 31, 32, 63, 64} {
			for _, age := range []int{0, 1, 255, 256, 1<<31 - 1, 1 << 31, 1<<32 + 5, most - 1, most} {
				for seg := range 3 {
					u := made(t, row(api.Full, 3, 3), row(api.Pending, 4, 4), row(api.Free, 5, 5))
					want := u.Segs()
					want[seg] = row(state, live, age)
					answers(t, u.Set(seg, want[seg]), api.OK)
					is(t, u, want...)
				}
			}
		}
	}
}

// P16.2: each number of a row one less than its least and one more than its greatest, and far out, beside others that may be: refused, and nothing is changed.
func TestSetRange(t *testing.T) {
	u := made(t, row(api.Full, 3, 3), row(api.Pending, 4, 4), row(api.Free, 5, 5))
	for seg := range 3 {
		for _, v := range slices.Concat([]int{-1, -2, -3, -4, 4, 5, 6, 7}, beyond, far) {
			setsNot(t, u, seg, row(v, 0, 0), api.ErrRange)
			setsNot(t, u, seg, row(v, 64, most), api.ErrRange)
		}
		for _, v := range slices.Concat([]int{-1, -2, -64, 65, 66}, beyond, far) {
			for _, s := range all {
				setsNot(t, u, seg, row(s, v, 0), api.ErrRange)
				setsNot(t, u, seg, row(s, v, most), api.ErrRange)
			}
		}
		for _, v := range slices.Concat([]int{-1, -2, -64, most + 1}, far) {
			for _, s := range all {
				setsNot(t, u, seg, row(s, 0, v), api.ErrRange)
				setsNot(t, u, seg, row(s, 64, v), api.ErrRange)
			}
		}
		for _, v := range far {
			setsNot(t, u, seg, row(v, v, v), api.ErrRange)
		}
	}
}

// P16.2: a segment that there is not is refused, whatever its row is.
func TestSetNoSegment(t *testing.T) {
	u := made(t, row(api.Full, 3, 3), row(api.Pending, 4, 4), row(api.Free, 5, 5))
	for _, seg := range noSegs(3) {
		for _, s := range all {
			setsNot(t, u, seg, row(s, 0, 0), api.ErrRange)
			setsNot(t, u, seg, row(s, 64, most), api.ErrRange)
		}
		setsNot(t, u, seg, row(9, -1, -1), api.ErrRange)
	}
}

// P16.2: Open is set where none is, and where this segment is; not where another one is, ahead or behind; the other states are set in each case.
func TestSetTwice(t *testing.T) {
	for open := range 4 {
		for seg := range 4 {
			for _, s := range all {
				u := usage.New(4)
				answers(t, u.Set(open, row(api.Open, 7, 7)), api.OK)
				x := row(s, 9, 9)
				if s == api.Open && seg != open {
					setsNot(t, u, seg, x, api.ErrTwice)
					answers(t, u.Set(open, row(api.Full, 7, 7)), api.OK)
					answers(t, u.Set(seg, x), api.OK)
					continue
				}
				want := u.Segs()
				want[seg] = x
				answers(t, u.Set(seg, x), api.OK)
				is(t, u, want...)
			}
		}
	}
}

// P16.2: what is out of its place goes ahead of a second Open one.
func TestSetFirst(t *testing.T) {
	u := made(t, row(api.Free, 0, 0), row(api.Open, 2, 2), row(api.Full, 3, 3))
	for _, v := range slices.Concat([]int{-1, most + 1}, far) {
		for _, seg := range []int{0, 2} {
			setsNot(t, u, seg, row(api.Open, v, 0), api.ErrRange)
			setsNot(t, u, seg, row(api.Open, 0, v), api.ErrRange)
			setsNot(t, u, seg, row(api.Open, v, v), api.ErrRange)
		}
		setsNot(t, u, v, row(api.Open, 0, 0), api.ErrRange)
	}
	setsNot(t, u, 3, row(api.Open, 0, 0), api.ErrRange)
	setsNot(t, u, 0, row(api.Open, 65, 0), api.ErrRange)
	setsNot(t, u, 0, row(api.Open, 64, most), api.ErrTwice)
	setsNot(t, u, 2, row(api.Open, 0, 0), api.ErrTwice)
	answers(t, u.Set(1, row(api.Open, 64, most)), api.OK)
}

// P16.3: the first of the Free ones is taken, in each table of five of which these are Free; the Open one is Full, ahead or behind, with its Live and its Age.
func TestTake(t *testing.T) {
	for free := range 32 {
		for open := -1; open < 5; open++ {
			if open >= 0 && free>>open&1 == 1 {
				continue
			}
			var l []api.Seg
			first := -1
			for i := range 5 {
				switch {
				case free>>i&1 == 1:
					l = append(l, row(api.Free, i, 10*i))
					if first < 0 {
						first = i
					}
				case i == open:
					l = append(l, row(api.Open, 20+i, 30+i))
				default:
					l = append(l, row(api.Full+i%2, i, 40+i))
				}
			}
			u := made(t, l...)
			if first < 0 {
				takesNone(t, u, 99)
				continue
			}
			takes(t, u, 99, first)
			l[first] = row(api.Open, 0, 99)
			if open >= 0 {
				l[open].State = api.Full
			}
			is(t, u, l...)
		}
	}
}

// P16.3: a now is cut to its place; where none is Free, no now changes anything.
func TestTakeNow(t *testing.T) {
	for _, x := range nows {
		u := made(t, row(api.Open, 5, 6), row(api.Free, 0, 0))
		takes(t, u, x.now, 1)
		is(t, u, row(api.Full, 5, 6), row(api.Open, 0, x.age))
		takesNone(t, u, x.now)
	}
}

// P16.4: each Live with each n about its room: just what leaves it from 0 to 64 is done; the Age is now just where n is above 0.
func TestAdd(t *testing.T) {
	for live := range 65 {
		for n := -70; n <= 70; n++ {
			state := all[live%4]
			u := made(t, row(api.Free, 1, 1), row(state, live, 100), row(api.Full, 64, 2))
			if live+n < 0 || live+n > 64 {
				addsNot(t, u, 1, n, 200)
				continue
			}
			answers(t, u.Add(1, n, 200), api.OK)
			age := 100
			if n > 0 {
				age = 200
			}
			is(t, u, row(api.Free, 1, 1), row(state, live+n, age), row(api.Full, 64, 2))
		}
	}
}

// P16.4: the greatest and the least numbers, and others far out, from each Live.
func TestAddFar(t *testing.T) {
	for _, live := range []int{0, 1, 2, 31, 32, 33, 63, 64} {
		u := made(t, row(api.Full, live, 5))
		for _, n := range slices.Concat(beyond, far) {
			addsNot(t, u, 0, n, 9)
			addsNot(t, u, 0, n, n)
		}
		for _, n := range []int{64 - live + 1, -live - 1} {
			addsNot(t, u, 0, n, 9)
		}
	}
}

// P16.4: a segment that there is not, with any n, 0 among them.
func TestAddNoSegment(t *testing.T) {
	u := made(t, row(api.Full, 3, 3), row(api.Open, 4, 4))
	for _, seg := range noSegs(2) {
		for _, n := range []int{0, 1, -1, 64, math.MinInt, math.MaxInt} {
			addsNot(t, u, seg, n, 9)
		}
	}
}

// P16.4: a now is cut to its place, where n is above 0; where n is 0 or below, no now turns the Age; a now that is below the Age makes it less.
func TestAddNow(t *testing.T) {
	for _, x := range nows {
		for _, n := range []int{1, 2, 32} {
			u := made(t, row(api.Full, 32, 700))
			answers(t, u.Add(0, n, x.now), api.OK)
			is(t, u, row(api.Full, 32+n, x.age))
		}
		for _, n := range []int{0, -1, -32} {
			u := made(t, row(api.Full, 32, 700))
			answers(t, u.Add(0, n, x.now), api.OK)
			is(t, u, row(api.Full, 32+n, 700))
		}
		u := made(t, row(api.Full, 32, 700))
		addsNot(t, u, 0, 33, x.now)
		addsNot(t, u, 0, -33, x.now)
	}
}

// P16.5: Pend of each State, with Live and without, wherever the segment lies: only a Full one without Live is Pending; its Age stays.
func TestPend(t *testing.T) {
	for _, s := range all {
		for _, live := range []int{0, 1, 2, 63, 64} {
			for seg := range 3 {
				l := []api.Seg{row(api.Full, 0, 4), row(api.Full, 0, 5), row(api.Full, 0, 6)}
				l[seg] = row(s, live, 77)
				u := made(t, l...)
				if s != api.Full || live != 0 {
					pendsNot(t, u, seg, api.ErrState)
					continue
				}
				answers(t, u.Pend(seg), api.OK)
				l[seg].State = api.Pending
				is(t, u, l...)
				pendsNot(t, u, seg, api.ErrState)
			}
		}
	}
}

// P16.5: Pend of a segment that there is not.
func TestPendNoSegment(t *testing.T) {
	u := made(t, row(api.Full, 0, 3), row(api.Full, 0, 4))
	for _, seg := range noSegs(2) {
		pendsNot(t, u, seg, api.ErrRange)
	}
}

// P16.5: Release of none, of one and of many, in each table of five of which these are Pending, also with Live and Age; the others stay, and a second one frees none.
func TestRelease(t *testing.T) {
	for pending := range 32 {
		var l, want []api.Seg
		n := 0
		for i := range 5 {
			x := row([]int{api.Free, api.Open, api.Full, api.Full, api.Free}[i], 3*i, 5*i)
			y := x
			if pending>>i&1 == 1 {
				x, y = row(api.Pending, 7*i, 9*i), row(api.Free, 0, 0)
				n++
			}
			l, want = append(l, x), append(want, y)
		}
		u := made(t, l...)
		releases(t, u, n)
		is(t, u, want...)
		releases(t, u, 0)
		is(t, u, want...)
	}
}

// P16.5: all of the greatest table, pended and released.
func TestReleaseAll(t *testing.T) {
	u := usage.New(32)
	for i := range 32 {
		answers(t, u.Set(i, row(api.Full, 0, i)), api.OK)
		answers(t, u.Pend(i), api.OK)
	}
	takesNone(t, u, 1)
	releases(t, u, 32)
	is(t, u, make([]api.Seg, 32)...)
}

// plain is the chapter's table made another way: a letter a state, one behind the other, and true numbers.
type plain struct {
	states    []byte
	live, age []*big.Int
}

// letters are the states' letters.
const letters = "foup"

// whole is a true number.
func whole(n int) *big.Int { return big.NewInt(int64(n)) }

// between tells whether a true number is in its place.
func between(n *big.Int, least, most int) bool {
	return n.Cmp(whole(least)) >= 0 && n.Cmp(whole(most)) <= 0
}

// newPlain is one of rows.
func newPlain(l []api.Seg) *plain {
	p := &plain{}
	for _, x := range l {
		p.states = append(p.states, letters[x.State])
		p.live, p.age = append(p.live, whole(x.Live)), append(p.age, whole(x.Age))
	}
	return p
}

// cutNow is a now in its place.
func cutNow(now int) *big.Int {
	l := []*big.Int{whole(0), whole(now), whole(1 << 40)}
	slices.SortFunc(l, (*big.Int).Cmp)
	return l[1]
}

func (p *plain) segs() []api.Seg {
	var l []api.Seg
	for i, c := range p.states {
		l = append(l, row(bytes.IndexByte([]byte(letters), c), int(p.live[i].Int64()), int(p.age[i].Int64())))
	}
	return l
}

func (p *plain) lacks(seg int) bool { return !between(whole(seg), 0, len(p.states)-1) }

func (p *plain) set(seg int, x api.Seg) api.Errno {
	if p.lacks(seg) || !between(whole(x.State), 0, 3) || !between(whole(x.Live), 0, 64) || !between(whole(x.Age), 0, 1<<40) {
		return api.ErrRange
	}
	was := p.states[seg]
	p.states[seg] = letters[x.State]
	if bytes.Count(p.states, []byte("o")) > 1 {
		p.states[seg] = was
		return api.ErrTwice
	}
	p.live[seg], p.age[seg] = whole(x.Live), whole(x.Age)
	return api.OK
}

func (p *plain) take(now int) (int, bool) {
	seg := bytes.IndexByte(p.states, 'f')
	if seg < 0 {
		return 0, false
	}
	p.states = bytes.ReplaceAll(p.states, []byte("o"), []byte("u"))
	p.states[seg], p.live[seg], p.age[seg] = 'o', whole(0), cutNow(now)
	return seg, true
}

func (p *plain) add(seg, n, now int) api.Errno {
	if p.lacks(seg) {
		return api.ErrRange
	}
	sum := new(big.Int).Add(p.live[seg], whole(n))
	if !between(sum, 0, 64) {
		return api.ErrRange
	}
	p.live[seg] = sum
	if n > 0 {
		p.age[seg] = cutNow(now)
	}
	return api.OK
}

func (p *plain) pend(seg int) api.Errno {
	if p.lacks(seg) {
		return api.ErrRange
	}
	if p.states[seg] != 'u' || p.live[seg].Sign() != 0 {
		return api.ErrState
	}
	p.states[seg] = 'p'
	return api.OK
}

func (p *plain) release() int {
	n := 0
	for i, c := range p.states {
		if c == 'p' {
			p.states[i], p.live[i], p.age[i] = 'f', whole(0), whole(0)
			n++
		}
	}
	return n
}

// pair is a table with the plain one beside it.
type pair struct {
	u *usage.Table
	p *plain
}

// call is something that is done with both; false: they answer unlike.
type call func(x pair) bool

func set(seg int, r api.Seg) call {
	return func(x pair) bool { return x.u.Set(seg, r) == x.p.set(seg, r) }
}

func take(now int) call {
	return func(x pair) bool {
		a, ok := x.u.Take(now)
		b, fine := x.p.take(now)
		return a == b && ok == fine
	}
}

func add(seg, n, now int) call {
	return func(x pair) bool { return x.u.Add(seg, n, now) == x.p.add(seg, n, now) }
}

func pend(seg int) call {
	return func(x pair) bool { return x.u.Pend(seg) == x.p.pend(seg) }
}

func release() call {
	return func(x pair) bool { return x.u.Release() == x.p.release() }
}

// rows are some that may be.
func rows() []api.Seg {
	var l []api.Seg
	for _, s := range all {
		for _, live := range []int{0, 1, 64} {
			l = append(l, row(s, live, 10*live))
		}
	}
	return l
}

// calls are those that are done with each small table.
func calls() []call {
	l := []call{take(50), take(-1), take(most + 1), release()}
	for _, seg := range []int{-1, 0, 1, 2, 3} {
		l = append(l, pend(seg))
		for _, n := range []int{math.MinInt, -64, -1, 0, 1, 63, 64, math.MaxInt} {
			l = append(l, add(seg, n, 60))
		}
		for _, s := range []int{-1, 0, 1, 2, 3, 4} {
			l = append(l, set(seg, row(s, 2, 70)))
		}
		l = append(l, set(seg, row(api.Open, 65, 0)), set(seg, row(api.Full, 0, -1)))
	}
	return l
}

// P16.1 to P16.6: each call with each table of three of some rows, against the chapter's words made another way.
func TestEachTable(t *testing.T) {
	some := rows()
	for _, a := range some {
		for _, b := range some {
			for _, c := range some {
				l := []api.Seg{a, b, c}
				if newPlain(l).opens() > 1 {
					continue
				}
				for i, do := range calls() {
					x := pair{usage.New(3), newPlain(l)}
					for seg, r := range l {
						x.u.Set(seg, r)
					}
					if !do(x) {
						t.Fatalf("call %d of %v: another answer", i, l)
					}
					if got, want := x.u.Segs(), x.p.segs(); !slices.Equal(got, want) {
						t.Fatalf("call %d of %v: %v, not %v", i, l, got, want)
					}
				}
			}
		}
	}
}

// opens is how many are Open.
func (p *plain) opens() int { return bytes.Count(p.states, []byte("o")) }

// number is one by chance, mostly about 0 to top.
func number(r *rand.Rand, top int) int {
	switch r.Intn(12) {
	case 0:
		return far[r.Intn(len(far))]
	case 1:
		return int(r.Uint64())
	case 2:
		return top + r.Intn(4) - 1
	case 3:
		return -r.Intn(3)
	}
	return r.Intn(top + 1)
}

// chance is a call by chance; sets says whether it may be a Set.
func chance(r *rand.Rand, n int, sets bool) call {
	seg := number(r, max(n-1, 0))
	switch k := r.Intn(20); {
	case k < 3 && sets:
		return set(seg, row(number(r, 3), number(r, 64), number(r, most)))
	case k < 7:
		return take(number(r, most))
	case k < 11:
		return pend(seg)
	case k < 12:
		return release()
	case k < 15:
		return add(seg, -number(r, 64), number(r, most))
	}
	return add(seg, number(r, 8), number(r, most))
}

// same tells of a pair that is not the same in all that a table tells.
func same(t *testing.T, x pair) {
	t.Helper()
	want := x.p.segs()
	is(t, x.u, want...)
	for of := -1; of < 5; of++ {
		k := 0
		for _, y := range want {
			if y.State == of {
				k++
			}
		}
		if got := x.u.Count(of); got != k {
			t.Errorf("Count(%d) of %v: %d", of, want, got)
		}
	}
	if got, want := x.u.Open(), bytes.IndexByte(x.p.states, 'o'); got != want {
		t.Errorf("Open: %d, not %d", got, want)
	}
}

// P16.1 to P16.6: long runs of calls by chance against the chapter's words made another way, in tables of each size.
func TestChance(t *testing.T) {
	for n := range 34 {
		r := rand.New(rand.NewSource(int64(1600 + n)))
		x := pair{usage.New(n), newPlain(make([]api.Seg, min(n, 32)))}
		for i := range 3000 {
			if !chance(r, n, true)(x) {
				t.Fatalf("%d segments, call %d: another answer; %v", n, i, x.p.segs())
			}
			same(t, x)
			if t.Failed() {
				t.Fatalf("%d segments, call %d", n, i)
			}
		}
	}
}

// opened is how many of rows are Open.
func opened(l []api.Seg) int {
	n := 0
	for _, x := range l {
		if x.State == api.Open {
			n++
		}
	}
	return n
}

// P16.6: at most one is Open whatever is done; a Take opens one that was Free, and closes no other than the one that was Open.
func TestOne(t *testing.T) {
	for n := 1; n <= 32; n++ {
		r := rand.New(rand.NewSource(int64(160 + n)))
		x := pair{usage.New(n), newPlain(make([]api.Seg, n))}
		for range 1000 {
			chance(r, n, true)(x)
			was := x.u.Segs()
			if opened(was) > 1 {
				t.Fatalf("%v", was)
			}
			now := r.Intn(99)
			seg, ok := x.u.Take(now)
			x.p.take(now)
			for i, y := range x.u.Segs() {
				switch {
				case ok && i == seg:
					if was[i].State != api.Free || y.State != api.Open {
						t.Fatalf("taken: %v from %v", y, was[i])
					}
				case was[i].State == api.Open && ok:
					if y != row(api.Full, was[i].Live, was[i].Age) {
						t.Fatalf("closed: %v from %v", y, was[i])
					}
				case y != was[i]:
					t.Fatalf("segment %d: %v from %v", i, y, was[i])
				}
			}
		}
	}
}

// goes tells of a segment that turns another way than round, or that is not empty where its State has turned from Full on.
func goes(t *testing.T, was, is api.Seg) {
	t.Helper()
	if is.State == was.State {
		return
	}
	if is.State != (was.State+1)%4 {
		t.Errorf("%v from %v", is, was)
	}
	if is.State != api.Full && is.Live != 0 {
		t.Errorf("not empty: %v", is)
	}
}

// P16.7: without Set a segment goes just the way round, a step at a time, and every one of them does; a Release frees just what was pended.
func TestWayRound(t *testing.T) {
	for n := 1; n <= 32; n++ {
		r := rand.New(rand.NewSource(int64(1700 + n)))
		u := usage.New(n)
		freed, pended := make([]int, n), 0
		for range 4000 {
			was := u.Segs()
			seg := r.Intn(n)
			switch r.Intn(6) {
			case 0, 1:
				u.Take(r.Intn(1000))
			case 2:
				if u.Pend(seg) == api.OK {
					pended++
				}
			case 3:
				u.Add(seg, r.Intn(40)-8, r.Intn(1000))
			case 4:
				answers(t, u.Add(seg, -was[seg].Live, r.Intn(1000)), api.OK)
			case 5:
				releases(t, u, pended)
				pended = 0
			}
			for i, x := range u.Segs() {
				goes(t, was[i], x)
				if x.State == api.Free && was[i].State != api.Free {
					freed[i]++
				}
			}
		}
		// One alone stays Open: nothing else is taken, by which it would be Full.
		if n > 1 && slices.Min(freed) == 0 {
			t.Errorf("%d segments, freed: %v", n, freed)
		}
	}
}

// P16.7: each call that may not turn a State turns none, in each State that there is without Set.
func TestNoOtherWay(t *testing.T) {
	fresh := func() *usage.Table {
		u := usage.New(5)
		for i := range 4 {
			takes(t, u, i, i)
		}
		answers(t, u.Add(1, 3, 9), api.OK)
		answers(t, u.Pend(0), api.OK)
		is(t, u, row(api.Pending, 0, 0), row(api.Full, 3, 9), row(api.Full, 0, 2), row(api.Open, 0, 3), row(api.Free, 0, 0))
		return u
	}
	states := func(u *usage.Table) []int {
		var l []int
		for _, x := range u.Segs() {
			l = append(l, x.State)
		}
		return l
	}
	want := []int{api.Pending, api.Full, api.Full, api.Open, api.Free}
	for seg := range 5 {
		for _, n := range []int{1, 61, 0, -1, -3} {
			u := fresh()
			u.Add(seg, n, 20)
			u.Segs()
			u.Open()
			u.Count(seg)
			if got := states(u); !slices.Equal(got, want) {
				t.Errorf("Add(%d, %d): %v", seg, n, got)
			}
		}
		if seg != 2 {
			pendsNot(t, fresh(), seg, api.ErrState)
		}
	}
	u := usage.New(4)
	releases(t, u, 0)
	for i := range 4 {
		takes(t, u, 5, i)
		releases(t, u, 0)
	}
	is(t, u, row(api.Full, 0, 5), row(api.Full, 0, 5), row(api.Full, 0, 5), row(api.Open, 0, 5))
}

// R3: Segs tells new memory: what a caller does to it changes no table and no other answer, also where there is room behind its end; what is done to the table later does not change it.
func TestSegsApart(t *testing.T) {
	l := []api.Seg{row(api.Full, 1, 1), row(api.Open, 2, 2), row(api.Free, 0, 0), row(api.Pending, 0, 3), row(api.Full, 0, 4)}
	u := made(t, l...)
	a, b := u.Segs(), u.Segs()
	for i := range a {
		a[i] = row(api.Open, 60, 60)
	}
	_ = append(a, make([]api.Seg, 40)...)
	_ = append(a[:2], row(9, 9, 9), row(9, 9, 9), row(9, 9, 9))
	is(t, u, l...)
	if !slices.Equal(b, l) {
		t.Errorf("another answer: %v", b)
	}
	takes(t, u, 9, 2)
	answers(t, u.Add(0, 5, 9), api.OK)
	answers(t, u.Pend(4), api.OK)
	releases(t, u, 2)
	answers(t, u.Set(0, row(api.Free, 0, 0)), api.OK)
	if !slices.Equal(b, l) {
		t.Errorf("behind calls: %v, not %v", b, l)
	}
	is(t, u, row(api.Free, 0, 0), row(api.Full, 2, 2), row(api.Open, 0, 9), row(api.Free, 0, 0), row(api.Free, 0, 0))
}

// R3, R4: tables have nothing in common, whatever is done with one; what was only asked, or refused, makes no difference.
func TestApart(t *testing.T) {
	a, b := usage.New(3), usage.New(3)
	takes(t, a, 5, 0)
	is(t, b, make([]api.Seg, 3)...)
	takes(t, b, 6, 0)
	takes(t, b, 7, 1)
	answers(t, b.Add(0, 4, 8), api.OK)
	is(t, a, row(api.Open, 0, 5), row(api.Free, 0, 0), row(api.Free, 0, 0))
	for range 3 {
		addsNot(t, a, 0, -1, 9)
		addsNot(t, a, 1, 65, 9)
		pendsNot(t, a, 1, api.ErrState)
		setsNot(t, a, 2, row(api.Open, 0, 0), api.ErrTwice)
		setsNot(t, a, 2, row(4, 0, 0), api.ErrRange)
		a.Count(7)
		a.Open()
	}
	takes(t, a, 9, 1)
	is(t, a, row(api.Full, 0, 5), row(api.Open, 0, 9), row(api.Free, 0, 0))
	is(t, b, row(api.Full, 4, 8), row(api.Open, 0, 7), row(api.Free, 0, 0))
}
