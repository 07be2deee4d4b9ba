package score_test

import (
	"math"
	"math/big"
	"math/rand"
	"slices"
	"testing"

	"rill/api"
	"rill/score"
)

// most is MaxNumber, written out.
const most = 1099511627776

// highest is the greatest score, written out: 1000 * 64 * (2^40 + 1).
const highest = 70368744177728000

// far are numbers that are out of every place, among them those that wrap round into one when they are cut, or reckoned with.
var far = []int{
	-2, -65, -255, -256, -1 << 31, -1<<31 + 2, -1 << 32, -1<<32 + 2, -1<<32 + 32, -most - 1, -most, -most + 5, -1 << 48, -1 << 62, -1<<62 + 1,
	-math.MaxInt, math.MinInt, math.MinInt + 1, math.MinInt + 5, math.MinInt + 32, math.MinInt + most,
	most + 1, most + 2, most + 32, 2 * most, 1 << 48, 1<<56 + 3, 1 << 62, 1<<62 + 2, 3 << 61,
	math.MaxInt - most, math.MaxInt - 63, math.MaxInt - 1, math.MaxInt,
}

// ages are numbers in an age's place.
var ages = []int{0, 1, 2, 3, 9, 10, 63, 64, 255, 256, 999, 1000, 1<<16 + 1, 1<<31 - 1, 1 << 31, 1 << 32, 1<<32 + 7, most / 3, most - 2, most - 1, most}

// all are the states, and none of them.
var all = []int{api.Free, api.Open, api.Full, api.Pending, -1, 4, 1<<8 + api.Full, 1<<32 + api.Full, math.MinInt + api.Full, math.MaxInt}

// row names a row by its numbers.
func row(state, live, age int) api.Seg { return api.Seg{State: state, Live: live, Age: age} }

// full is a full one's row.
func full(live, age int) api.Seg { return row(api.Full, live, age) }

// worth is P17.1, of true numbers.
func worth(slots, live, age int) int {
	if slots < 1 || slots > 64 || live < 0 || live > slots || age < 0 || age > most {
		return 0
	}
	n := func(v int) *big.Int { return big.NewInt(int64(v)) }
	up := n(1000)
	up.Mul(up, new(big.Int).Sub(n(slots), n(live)))
	up.Mul(up, new(big.Int).Add(n(age), n(1)))
	return int(up.Quo(up, new(big.Int).Add(n(slots), n(live))).Int64())
}

// old is a row's age by P17.2, of true numbers.
func old(then, now int) int {
	d := new(big.Int).Sub(big.NewInt(int64(now)), big.NewInt(int64(then)))
	if d.Sign() < 0 {
		return 0
	}
	if d.Cmp(big.NewInt(most)) > 0 {
		return most
	}
	return int(d.Int64())
}

// plain is P17.2 made another way: those that may be are put in order of their worth, equal ones as they stood.
func plain(l []api.Seg, slots, lean, now int) (int, bool) {
	var may []int
	for i := range l {
		if l[i].State == 2 && l[i].Live >= 0 && l[i].Live <= lean {
			may = append(may, i)
		}
	}
	if len(may) == 0 {
		return 0, false
	}
	of := func(i int) int { return worth(slots, l[i].Live, old(l[i].Age, now)) }
	slices.SortStableFunc(may, func(a, b int) int { return of(b) - of(a) })
	return may[0], true
}

// gives tells of an Of that is not what it should be.
func gives(t *testing.T, slots, live, age, want int) {
	t.Helper()
	if got := score.Of(slots, live, age); got != want {
		t.Errorf("Of(%d, %d, %d): %d, not %d", slots, live, age, got, want)
	}
}

// finds tells of a Victim that is not the one that should be.
func finds(t *testing.T, l []api.Seg, slots, lean, now, at int, ok bool) {
	t.Helper()
	if gotAt, gotOK := score.Victim(l, slots, lean, now); gotAt != at || gotOK != ok {
		t.Errorf("Victim(%v, %d, %d, %d): %d %v, not %d %v", l, slots, lean, now, gotAt, gotOK, at, ok)
	}
}

// holds tells of a Victim that is not what the chapter's words say.
func holds(t *testing.T, l []api.Seg, slots, lean, now int) {
	t.Helper()
	at, ok := plain(l, slots, lean, now)
	finds(t, l, slots, lean, now, at, ok)
}

func TestExamples(t *testing.T) {
	gives(t, 32, 0, 0, 1000)
	gives(t, 32, 6, 9, 6842)
	gives(t, 32, 32, 9, 0)
	gives(t, 0, 0, 0, 0)
	gives(t, 32, 33, 0, 0)
	l := []api.Seg{full(6, 5), full(0, 5), row(api.Open, 0, 0), full(0, 4)}
	finds(t, l, 32, 6, 9, 3, true)
	finds(t, l, 32, -1, 9, 0, false)
	finds(t, nil, 32, 6, 9, 0, false)
	finds(t, []api.Seg{}, 32, 6, 9, 0, false)
}

// P17.1: numbers worked out by hand, among them the least and the greatest of each place.
func TestOfByHand(t *testing.T) {
	for _, x := range [][4]int{
		{1, 0, 0, 1000}, {1, 1, 0, 0}, {1, 1, most, 0}, {1, 0, most, 1000 * (most + 1)},
		{64, 0, 0, 1000}, {64, 64, most, 0}, {64, 0, most, 1000 * (most + 1)},
		{64, 63, 0, 7}, {64, 63, 126, 1000}, {64, 63, 125, 992}, {64, 32, 0, 333}, {64, 32, 2, 1000}, {64, 1, 0, 969},
		{32, 31, 0, 15}, {32, 16, 0, 333}, {32, 16, 1, 666}, {32, 16, 2, 1000}, {32, 1, 0, 939}, {3, 2, 0, 200}, {3, 1, 0, 500}, {2, 1, 0, 333},
		{64, 1, most, 1065680500768476}, {64, 63, most, 8657571872259},
	} {
		gives(t, x[0], x[1], x[2], x[3])
	}
}

// P17.1: each slots and live, in their places and about them, with ages in their place.
func TestOfEach(t *testing.T) {
	for slots := -3; slots <= 70; slots++ {
		for live := -3; live <= 70; live++ {
			for _, age := range ages {
				gives(t, slots, live, age, worth(slots, live, age))
			}
		}
	}
}

// P17.1: where a number is out of its place, next to it or far, it is 0.
func TestOfOutOfPlace(t *testing.T) {
	for _, v := range slices.Concat([]int{-1}, far) {
		for _, age := range ages {
			gives(t, v, 0, age, 0)
			gives(t, v, 1, age, 0)
			gives(t, v, v, age, 0)
			gives(t, 32, v, age, 0)
			gives(t, 64, v, age, 0)
		}
		for _, slots := range []int{1, 32, 64} {
			gives(t, slots, 0, v, 0)
			gives(t, slots, slots-1, v, 0)
			gives(t, slots, v, v, 0)
		}
		for _, w := range far {
			gives(t, v, w, 0, 0)
			gives(t, v, w, w, 0)
		}
	}
	for _, x := range [][3]int{{0, 0, 9}, {65, 0, 9}, {65, 64, 9}, {-1, -1, 9}, {64, 65, 9}, {32, 33, 9}, {1, 2, 9}, {32, -1, 9}, {32, 0, -1}, {32, 0, most + 1}} {
		gives(t, x[0], x[1], x[2], 0)
	}
}

// P17.3: with more age it is not less, with more live slots not greater, and it is from 0 to the highest.
func TestOfGrows(t *testing.T) {
	for slots := 1; slots <= 64; slots++ {
		for live := 0; live <= slots; live++ {
			for i, age := range ages {
				v := score.Of(slots, live, age)
				if v < 0 || v > highest {
					t.Errorf("Of(%d, %d, %d): %d", slots, live, age, v)
				}
				if i > 0 && score.Of(slots, live, ages[i-1]) > v {
					t.Errorf("Of(%d, %d, %d): less with more age", slots, live, age)
				}
				if live > 0 && score.Of(slots, live-1, age) < v {
					t.Errorf("Of(%d, %d, %d): greater with more live slots", slots, live, age)
				}
			}
		}
	}
}

// P17.1, P17.3: ages, slots and live slots by chance.
func TestOfByChance(t *testing.T) {
	r := rand.New(rand.NewSource(17))
	for range 20000 {
		slots := 1 + r.Intn(64)
		live, age, more := r.Intn(slots+1), r.Intn(most+1)>>r.Intn(41), r.Intn(1000)
		v := score.Of(slots, live, age)
		gives(t, slots, live, age, worth(slots, live, age))
		if w := score.Of(slots, live, min(age+more, most)); w < v {
			t.Errorf("Of(%d, %d, %d): less with %d more age", slots, live, age, more)
		}
		if w := score.Of(slots, min(live+more, slots), age); w > v {
			t.Errorf("Of(%d, %d, %d): greater with %d more live slots", slots, live, age, more)
		}
	}
}

// P17.2: only a full one may be a victim, however much the others would be worth.
func TestVictimFull(t *testing.T) {
	for _, s := range all {
		for _, u := range all {
			l := []api.Seg{row(s, 0, 0), row(u, 0, 0)}
			at, ok := slices.Index([]int{s, u}, api.Full), s == api.Full || u == api.Full
			finds(t, l, 32, 6, 9, max(at, 0), ok)
			if s != api.Full && u != api.Full {
				finds(t, append(l, full(31, 9)), 32, 31, 9, 2, true)
				finds(t, append([]api.Seg{full(31, 9)}, l...), 32, 31, 9, 0, true)
			}
		}
	}
}

// P17.2: only one whose live slots are from 0 to lean may be one: also where lean is 0, below it, or above the slots.
func TestVictimLean(t *testing.T) {
	for live := -2; live <= 66; live++ {
		for lean := -2; lean <= 66; lean++ {
			for _, slots := range []int{32, 64} {
				ok := live >= 0 && live <= lean
				finds(t, []api.Seg{full(live, 5)}, slots, lean, 9, 0, ok)
				at := 0
				if ok {
					at = 1
				}
				finds(t, []api.Seg{row(api.Open, 0, 0), full(live, 5)}, slots, lean, 9, at, ok)
			}
		}
	}
	for _, v := range far {
		finds(t, []api.Seg{full(0, 5)}, 32, v, 9, 0, v > 0)
		finds(t, []api.Seg{row(api.Free, 0, 0), full(v, 5)}, 32, 64, 9, 0, false)
		finds(t, []api.Seg{row(api.Free, 0, 0), full(max(v, -1), 5)}, 32, math.MaxInt, 9, max(min(v, 1), 0), v > 0)
		finds(t, []api.Seg{full(v, 5), full(6, 5)}, 32, 6, 9, 1, true)
		finds(t, []api.Seg{full(6, 5), full(v, 5)}, 32, 6, 9, 0, true)
	}
	finds(t, []api.Seg{full(0, 5)}, 32, 0, 9, 0, true)
	finds(t, []api.Seg{full(1, 5)}, 32, 0, 9, 0, false)
	finds(t, []api.Seg{full(-1, 5)}, 32, -1, 9, 0, false)
	finds(t, []api.Seg{full(math.MaxInt, 5)}, 32, math.MaxInt, 9, 0, true)
	finds(t, []api.Seg{full(math.MinInt, 5)}, 32, math.MaxInt, 9, 0, false)
}

// P17.2: of equal ones the first, also where they are equal with other rows, and where all are worth 0.
func TestVictimFirst(t *testing.T) {
	finds(t, []api.Seg{full(6, 5), full(6, 5), full(6, 5)}, 32, 6, 9, 0, true)
	finds(t, []api.Seg{full(6, 6), full(6, 5), full(6, 5)}, 32, 6, 9, 1, true)
	finds(t, []api.Seg{row(api.Free, 6, 5), full(6, 9), full(0, 9), full(0, 9)}, 32, 6, 9, 2, true)
	// 16 of 32 slots at the age 2 are worth as much as none at the age 0.
	finds(t, []api.Seg{full(16, 7), full(0, 9)}, 32, 16, 9, 0, true)
	finds(t, []api.Seg{full(0, 9), full(16, 7)}, 32, 16, 9, 0, true)
	// One that is worth 0 may be the victim, where no other may be that is worth more.
	for _, slots := range slices.Concat([]int{0, -1, 65, 66}, far) {
		finds(t, []api.Seg{row(api.Open, 0, 0), full(5, 9), full(0, 0)}, slots, 6, 9, 1, true)
		finds(t, []api.Seg{full(7, 9), row(api.Pending, 0, 0), full(6, 9)}, slots, 6, 9, 2, true)
		finds(t, []api.Seg{full(7, 9)}, slots, 6, 9, 0, false)
	}
	finds(t, []api.Seg{full(32, 9), full(32, 0)}, 32, 32, 9, 0, true)
	finds(t, []api.Seg{full(33, 9), full(40, 0), full(31, 9)}, 32, 40, 9, 2, true)
	finds(t, []api.Seg{row(api.Free, 0, 0), full(33, 9), full(40, 0), full(32, 9)}, 32, 40, 9, 1, true)
}

// P17.2: two scores that are equal only because what was left over was let go are equal ones: the first is the victim.
func TestVictimLeftOver(t *testing.T) {
	n := 0
	for live := range 64 {
		for other := range live {
			for age := range 6 {
				for more := range 60 {
					if score.Of(64, live, more) == score.Of(64, other, age) && (64-live)*(more+1)*(64+other) > (64-other)*(age+1)*(64+live) {
						finds(t, []api.Seg{full(other, 100-age), full(live, 100-more)}, 64, 64, 100, 0, true)
						n++
					}
				}
			}
		}
	}
	if n == 0 {
		t.Error("no two scores that are equal but for what was let go")
	}
}

// P17.2: an age is at least 0, so those ahead of their time are all as old.
func TestVictimYoung(t *testing.T) {
	for _, now := range slices.Concat([]int{0, 1, 5, 9, most - 1, most}, far) {
		for _, ahead := range []int{0, 1, 2, most, 1 << 62, math.MaxInt} {
			then := now + ahead
			if then < now {
				then = math.MaxInt
			}
			finds(t, []api.Seg{full(0, then), full(0, now)}, 32, 6, now, 0, true)
			finds(t, []api.Seg{full(0, now), full(0, then)}, 32, 6, now, 0, true)
			finds(t, []api.Seg{full(6, then), full(5, now), full(6, now)}, 32, 6, now, 1, true)
			if now > math.MinInt {
				finds(t, []api.Seg{full(0, then), full(0, now-1)}, 32, 6, now, 1, true)
			}
		}
	}
	finds(t, []api.Seg{full(0, math.MaxInt), full(0, 0)}, 32, 6, math.MinInt, 0, true)
	finds(t, []api.Seg{full(1, math.MinInt), full(0, math.MaxInt)}, 32, 6, math.MinInt, 1, true)
}

// P17.2: an age is at most MaxNumber, so those that are older are all as old.
func TestVictimOld(t *testing.T) {
	for _, now := range slices.Concat([]int{0, 1, 5, 9, most - 1, most}, far) {
		if now < math.MinInt+most+2 {
			continue
		}
		for _, behind := range []int{0, 1, 2, most, 1 << 62, math.MaxInt} {
			oldest := now - most
			then := oldest - behind
			if then > oldest {
				then = math.MinInt
			}
			finds(t, []api.Seg{full(0, then), full(0, oldest)}, 32, 6, now, 0, true)
			finds(t, []api.Seg{full(0, oldest), full(0, then)}, 32, 6, now, 0, true)
			finds(t, []api.Seg{full(0, oldest+1), full(0, then)}, 32, 6, now, 1, true)
			finds(t, []api.Seg{full(6, then), full(5, then), full(5, oldest)}, 32, 6, now, 1, true)
		}
	}
	finds(t, []api.Seg{full(0, math.MaxInt), full(0, math.MinInt)}, 32, 6, math.MaxInt, 1, true)
	finds(t, []api.Seg{full(0, math.MaxInt-most), full(0, math.MinInt)}, 32, 6, math.MaxInt, 0, true)
	finds(t, []api.Seg{full(0, -2), full(0, math.MinInt)}, 32, 6, -1, 1, true)
	finds(t, []api.Seg{full(0, 1), full(0, math.MinInt)}, 32, 6, 2, 1, true)
}

// P17.2: each pair of ages out of a place with each now, held against the difference of true numbers.
func TestVictimFar(t *testing.T) {
	those := slices.Concat([]int{-1, 0, 1, 5, most - 1, most}, far)
	for _, now := range those {
		for _, a := range those {
			for _, b := range those {
				holds(t, []api.Seg{full(3, a), full(3, b)}, 32, 6, now)
				holds(t, []api.Seg{full(5, a), full(3, b)}, 64, 6, now)
			}
		}
	}
}

// P17.2: each list of up to three of some rows, with each of some leans and slots.
func TestVictimEach(t *testing.T) {
	rows := []api.Seg{row(api.Free, 0, 0), row(api.Open, 0, 1), row(api.Pending, 0, 0), full(0, 5), full(0, 8), full(3, 2), full(16, 0), full(32, 0), full(-1, 0), full(33, 9)}
	var lists [][]api.Seg
	lists = append(lists, nil)
	for from, size := 0, 0; size < 3; size++ {
		to := len(lists)
		for _, l := range lists[from:to] {
			for _, x := range rows {
				lists = append(lists, append(slices.Clone(l), x))
			}
		}
		from = to
	}
	for _, l := range lists {
		for _, lean := range []int{-1, 0, 2, 3, 16, 32, 33} {
			for _, slots := range []int{0, 32, 64, 65} {
				holds(t, l, slots, lean, 9)
			}
		}
	}
}

// byChance is a list by chance, of which many may be victims.
func byChance(r *rand.Rand) []api.Seg {
	l := make([]api.Seg, r.Intn(33))
	for i := range l {
		l[i] = row(r.Intn(4), r.Intn(65), r.Intn(20))
		if r.Intn(3) > 0 {
			l[i].State = api.Full
		}
		switch r.Intn(12) {
		case 0:
			l[i].Age = far[r.Intn(len(far))]
		case 1:
			l[i].Live = far[r.Intn(len(far))]
		case 2, 3:
			l[i].Age = r.Intn(most + 1)
		}
	}
	return l
}

// P17.2, P17.4: long lists by chance: it is the one that the chapter's words say, and no row that may be one is worth more.
func TestVictimByChance(t *testing.T) {
	r := rand.New(rand.NewSource(172))
	for range 20000 {
		l, slots, lean, now := byChance(r), 32+r.Intn(33), r.Intn(66)-1, r.Intn(40)
		switch r.Intn(10) {
		case 0:
			now = far[r.Intn(len(far))]
		case 1:
			now = r.Intn(most + 1)
		}
		holds(t, l, slots, lean, now)
		at, ok := score.Victim(l, slots, lean, now)
		for i, x := range l {
			may := x.State == api.Full && x.Live >= 0 && x.Live <= lean
			if may && (!ok || score.Of(slots, x.Live, old(x.Age, now)) > score.Of(slots, l[at].Live, old(l[at].Age, now))) {
				t.Errorf("%v at %d is worth more than %d of %v with %d %d %d", x, i, at, l, slots, lean, now)
			}
		}
	}
}

// P17.2: a list may be longer than a volume has segments.
func TestVictimLong(t *testing.T) {
	l := make([]api.Seg, 5000)
	for i := range l {
		l[i] = full(6, 9)
	}
	finds(t, l, 32, 6, 9, 0, true)
	l[4999] = full(5, 9)
	finds(t, l, 32, 6, 9, 4999, true)
	l[4321] = full(5, 8)
	finds(t, l, 32, 6, 9, 4321, true)
	finds(t, l[:4321], 32, 6, 9, 0, true)
	finds(t, l, 32, 4, 9, 0, false)
}

// R3, R4: the list is not changed, nor what lies behind its end, nor is it kept; asked again, the answer is the same.
func TestNothingKept(t *testing.T) {
	r := rand.New(rand.NewSource(173))
	for range 500 {
		whole := append(byChance(r), full(0, math.MinInt), full(0, -5), row(api.Open, 1, 2))
		l, was := whole[:len(whole)-3], slices.Clone(whole)
		at, ok := score.Victim(l, 32, 16, 9)
		score.Victim([]api.Seg{full(0, math.MinInt)}, 32, 16, math.MaxInt)
		score.Victim(nil, 32, 16, 9)
		score.Of(32, 0, most)
		finds(t, l, 32, 16, 9, at, ok)
		if !slices.Equal(whole, was) {
			t.Fatalf("%v became %v", was, whole)
		}
		for i := range whole {
			whole[i] = row(api.Free, 0, 0)
		}
		finds(t, l, 32, 16, 9, 0, false)
		finds(t, was[:len(was)-3], 32, 16, 9, at, ok)
	}
}
