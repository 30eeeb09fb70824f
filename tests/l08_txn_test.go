package tests

import (
	"math"
	"math/rand/v2"
	"slices"
	"testing"

	"loop.example/g00717/impl"
)

func txOf(actor int, snap []int, ups ...impl.Up) impl.Tx {
	return impl.Tx{Actor: actor, Snap: snap, Ups: ups}
}

// txNow is a transaction that has seen all that the place knows.
func txNow(p impl.Place, actor int, ups ...impl.Up) impl.Tx {
	return txOf(actor, countsOf(p.L, p.N), ups...)
}

func copyTx(x impl.Tx) impl.Tx {
	return txOf(x.Actor, slices.Clone(x.Snap), slices.Clone(x.Ups)...)
}

func sameTx(x, y impl.Tx) bool {
	return x.Actor == y.Actor && slices.Equal(x.Snap, y.Snap) && slices.Equal(x.Ups, y.Ups)
}

// plainTxOk says once more what the document asks of a transaction at a good place.
func plainTxOk(p impl.Place, x impl.Tx) bool {
	if !plainActOk(nextOf(nil, 1, 0, does(x.Actor, x.Ups...)), 1) || !plainPair(x.Snap, countsOf(p.L, p.N)).aLeqB {
		return false
	}
	part, _ := plainCut(p.L, p.N, x.Snap)
	return len(part) > 0 || !slices.ContainsFunc(x.Snap, func(count int) bool { return count != 0 })
}

// plainThen gives what a good transaction sees of L, and what its actor may do
// in the bucket as far as that tells.
func plainThen(p impl.Place, x impl.Tx, bucket int) ([]impl.Act, int) {
	part, _ := plainCut(p.L, p.N, x.Snap)
	return part, plainRights(part, x.Actor, bucket, plainNow(part, p.N))
}

// plainTxRead is for good transactions at good places. It has the keeper write
// the ups, for what the keeper writes counts, and look at them.
func plainTxRead(p impl.Place, x impl.Tx, facet, bucket, key int) ([]int, int) {
	part, rights := plainThen(p, x, bucket)
	own := nextOf(part, p.N, p.Id, does(0, x.Ups...))
	list, code := plainLook(impl.Place{N: p.N, L: append(slices.Clone(part), own)}, 0, facet, bucket, key)
	if code == 0 && rights%2 == 0 {
		return nil, 2
	}
	return list, code
}

func plainTxPut(p impl.Place, x impl.Tx, u impl.Up) (impl.Tx, int) {
	if !plainPlaceOk(p) || !plainTxOk(p, x) || !plainTxOk(p, txOf(0, x.Snap, u)) {
		return impl.Tx{}, 1
	}
	writes, adds := plainNeeds(does(0, u), u.Bucket)
	_, rights := plainThen(p, x, u.Bucket)
	switch {
	case len(x.Ups) == 5:
		return impl.Tx{}, 3
	case writes && rights/2%2 == 0 || adds && rights/4%2 == 0:
		return impl.Tx{}, 2
	}
	return txOf(x.Actor, x.Snap, append(slices.Clone(x.Ups), u)...), 0
}

func plainTxEnd(p impl.Place, x impl.Tx) said {
	if !plainPlaceOk(p) || !plainTxOk(p, x) {
		return said{code: 1}
	}
	return plainSay(p, does(x.Actor, x.Ups...))
}

// checkTx asks twice for a transaction, and overwrites what comes back first:
// neither the second nor a third answer may change.
func checkTx(t *testing.T, what string, want impl.Tx, give func() impl.Tx) {
	t.Helper()
	first, second := give(), give()
	if !sameTx(first, want) {
		t.Fatalf("%s: %+v, not %+v", what, first, want)
	}
	overwriteTx(first)
	if !sameTx(second, want) || !sameTx(give(), want) {
		t.Fatal("answers share memory, or one is kept:", what)
	}
}

func checkTxBegin(t *testing.T, p impl.Place, actor int, want impl.Tx, wantOk bool) {
	t.Helper()
	g := guardPlace(p)
	checkTx(t, "TxBegin", want, func() impl.Tx {
		x, ok := impl.TxBegin(g.place, actor)
		if ok != wantOk {
			t.Fatalf("TxBegin(%+v, %d): %v", p, actor, ok)
		}
		return x
	})
	g.check(t, "TxBegin")
}

func checkTxOk(t *testing.T, p impl.Place, x impl.Tx, want bool) {
	t.Helper()
	g, h := guardPlace(p), guardTx(x)
	if got := impl.TxOk(g.place, h.tx); got != want {
		t.Fatalf("TxOk(%+v, %+v): %v", p, x, got)
	}
	g.check(t, "TxOk")
	h.check(t, "TxOk")
}

func checkTxRead(t *testing.T, p impl.Place, x impl.Tx, facet, bucket, key int, want []int, wantCode int) {
	t.Helper()
	g, h := guardPlace(p), guardTx(x)
	change := func(val int) int { return -val - 77 }
	checkList(t, "TxRead", want, change, func() []int {
		got, code := impl.TxRead(g.place, h.tx, facet, bucket, key)
		if code != wantCode {
			t.Fatalf("TxRead(%+v, %+v, %d, %d, %d): %d, not %d", p, x, facet, bucket, key, code, wantCode)
		}
		return got
	})
	g.check(t, "TxRead")
	h.check(t, "TxRead")
}

func checkTxPut(t *testing.T, p impl.Place, x impl.Tx, u impl.Up, want impl.Tx, wantCode int) {
	t.Helper()
	g, h := guardPlace(p), guardTx(x)
	checkTx(t, "TxPut", want, func() impl.Tx {
		y, code := impl.TxPut(g.place, h.tx, u)
		if code != wantCode {
			t.Fatalf("TxPut(%+v, %+v, %+v): %d, not %d", p, x, u, code, wantCode)
		}
		return y
	})
	g.check(t, "TxPut")
	h.check(t, "TxPut")
}

func checkTxEnd(t *testing.T, p impl.Place, x impl.Tx, want said) {
	t.Helper()
	g, h := guardPlace(p), guardTx(x)
	checkSaid(t, "TxEnd", want, func() said {
		q, a, code := impl.TxEnd(g.place, h.tx)
		return said{q, a, code}
	})
	g.check(t, "TxEnd")
	h.check(t, "TxEnd")
}

// checkNoTx asks everything of a place and a transaction that do not fit, and
// also for what would be refused for another reason.
func checkNoTx(t *testing.T, p impl.Place, x impl.Tx) {
	t.Helper()
	checkTxOk(t, p, x, false)
	for facet := range impl.FcItems + 2 {
		checkTxRead(t, p, x, facet, 0, 0, nil, impl.PmForm)
		checkTxRead(t, p, x, facet, 2, 3, nil, impl.PmForm)
		checkTxRead(t, p, x, facet, 3, 4, nil, impl.PmForm)
	}
	for _, u := range []impl.Up{{}, toSet(1), toAdd(1), at(2, 3, toIns(1)), at(1, 0, toRem(1)), at(-1, 4, toAdd(1))} {
		checkTxPut(t, p, x, u, impl.Tx{}, impl.PmForm)
	}
	checkTxEnd(t, p, x, said{code: impl.PmForm})
}

// checkPlainTx asks everything of a good transaction at a good place, and the
// plain functions what to expect.
func checkPlainTx(t *testing.T, p impl.Place, x impl.Tx, ups ...impl.Up) {
	t.Helper()
	checkTxOk(t, p, x, true)
	for facet := impl.FcReg; facet <= impl.FcItems; facet++ {
		for bucket := range impl.Buckets {
			for key := range impl.Keys {
				want, wantCode := plainTxRead(p, x, facet, bucket, key)
				got, code := impl.TxRead(p, x, facet, bucket, key)
				if code != wantCode || !slices.Equal(got, want) {
					t.Fatalf("TxRead(%+v, %+v, %d, %d, %d): %v, %d", p, x, facet, bucket, key, got, code)
				}
			}
		}
	}
	for _, u := range ups {
		want, wantCode := plainTxPut(p, x, u)
		checkTxPut(t, p, x, u, want, wantCode)
	}
	checkTxEnd(t, p, x, plainTxEnd(p, x))
}

// deal is a transaction, and the place of it, to which more may happen meanwhile.
// The code of each answer is given by hand, and what is read.
type deal struct {
	*post
	x impl.Tx
}

func (s *post) begin(actor int) *deal {
	s.t.Helper()
	x := txNow(s.p, actor)
	checkTxBegin(s.t, s.p, actor, x, true)
	return &deal{s, x}
}

func (d *deal) put(code int, u impl.Up) {
	d.t.Helper()
	want, wantCode := plainTxPut(d.p, d.x, u)
	if wantCode != code {
		d.t.Fatalf("the plain function has another code: %d, not %d, for %+v", wantCode, code, u)
	}
	checkTxPut(d.t, d.p, d.x, u, want, code)
	if code == impl.PmOk {
		d.x = want
		checkTxOk(d.t, d.p, d.x, true)
	}
}

func (d *deal) putAll(ups ...impl.Up) {
	d.t.Helper()
	for _, u := range ups {
		d.put(impl.PmOk, u)
	}
}

func (d *deal) read(code, facet, bucket, key int, want ...int) {
	d.t.Helper()
	checkTxRead(d.t, d.p, d.x, facet, bucket, key, want, code)
}

// reads says of each facet of a thing what is read of it.
func (d *deal) reads(want impl.Thing) {
	d.t.Helper()
	var reg []int
	if want.Has {
		reg = []int{want.Reg}
	}
	d.read(impl.PmOk, impl.FcReg, want.Bucket, want.Key, reg...)
	d.read(impl.PmOk, impl.FcCount, want.Bucket, want.Key, want.Count)
	d.read(impl.PmOk, impl.FcItems, want.Bucket, want.Key, want.Items...)
}

func (d *deal) readsNothing(bucket, key int) {
	d.t.Helper()
	for facet := impl.FcReg; facet <= impl.FcItems; facet++ {
		d.read(impl.PmDenied, facet, bucket, key)
	}
}

// end leaves the place as it is where the end is refused.
func (d *deal) end(code int) impl.Act {
	d.t.Helper()
	want := plainTxEnd(d.p, d.x)
	if want.code != code {
		d.t.Fatalf("the plain function has another code: %d, not %d, for %+v", want.code, code, d.x)
	}
	checkTxEnd(d.t, d.p, d.x, want)
	if code == impl.PmOk {
		d.p = copyPlace(want.place)
		checkPlaceOk(d.t, d.p, true)
	}
	return copyAct(want.act)
}

func TestTxBegin(t *testing.T) {
	numbers := []int{math.MinInt, -1 << 32, -6, -1, 0, 1, 2, 3, 4, 5, 6, 7, 1 << 32, math.MaxInt}
	for n := 1; n <= impl.MaxPlaces; n++ {
		for id := range n {
			for _, p := range []impl.Place{{Id: id, N: n}, placeOf(id, n, history(n, 7, 1)), placeOf(id, n, chain(id, impl.MaxActs, n))} {
				for _, actor := range numbers {
					isActor := actor >= 0 && actor <= 5
					want := impl.Tx{}
					if isActor {
						want = txNow(p, actor)
					}
					checkTxBegin(t, p, actor, want, isActor)
					checkTxOk(t, p, txNow(p, actor), isActor)
					if !isActor && len(p.L) < impl.MaxActs {
						checkNoTx(t, p, txNow(p, actor))
					}
				}
			}
		}
	}
	x, ok := impl.TxBegin(busyPlace(), 3)
	if !ok || x.Actor != 3 || !slices.Equal(x.Snap, []int{4, 2, 2}) || len(x.Ups) != 0 {
		t.Fatal(x, ok)
	}
}

// TestTxAtNoPlace has places of which one field alone is not as it should be,
// and transactions that fit the place as it should be.
func TestTxAtNoPlace(t *testing.T) {
	good := busyPlace()
	for _, x := range []impl.Tx{txNow(good, 0), txNow(good, 1, toSet(1), toAdd(2)), txOf(0, []int{0, 0, 0}), txOf(5, []int{2, 0, 0})} {
		checkTxOk(t, good, x, true)
		for _, p := range noPlaces(t) {
			checkTxBegin(t, p, x.Actor, impl.Tx{}, false)
			checkNoTx(t, p, x)
		}
	}
	for _, snap := range [][]int{nil, {}, {0}, {0, 0}, {0, 0, 0, 0}, {0, 0, 0, 0, 0}} {
		for _, p := range []impl.Place{{}, {N: -1}, {Id: -1, N: len(snap)}, {N: 5}, {Id: len(snap), N: len(snap)}} {
			checkTxBegin(t, p, 0, impl.Tx{}, false)
			checkNoTx(t, p, txOf(0, snap))
		}
	}
	tooMany := placeOf(0, 1, chain(0, impl.MaxActs+1, 1))
	tooMany.V = make([]bool, impl.MaxActs+1)
	fill(tooMany.V, true)
	checkTxBegin(t, tooMany, 0, impl.Tx{}, false)
	checkNoTx(t, tooMany, txNow(tooMany, 0))
	checkNoTx(t, tooMany, txOf(0, []int{3}))
}

// TestTxOkBySnap has each Snap up to more than what the place knows.
func TestTxOkBySnap(t *testing.T) {
	p := busyPlace()
	checkTxOk(t, p, txOf(0, []int{1, 0, 0}), true)
	checkTxOk(t, p, txOf(0, []int{0, 0, 0}), true)  // nothing
	checkTxOk(t, p, txOf(0, []int{4, 2, 2}), true)  // all
	checkTxOk(t, p, txOf(0, []int{4, 2, 0}), true)  // without those that nobody knows
	checkTxOk(t, p, txOf(0, []int{0, 1, 0}), false) // without what that one knew
	checkTxOk(t, p, txOf(0, []int{0, 0, 1}), false)
	checkTxOk(t, p, txOf(0, []int{3, 2, 2}), false)
	for place := range 3 {
		more := []int{4, 2, 2}
		more[place]++
		checkTxOk(t, p, txOf(0, more), false)
	}
	seen := map[bool]int{}
	for a := range 6 {
		for b := range 4 {
			for c := range 4 {
				x := txOf(a, []int{a, b, c}, toAdd(a), at(1, 2, toIns(b)))
				x.Actor = min(a, 5)
				ok := plainTxOk(p, x)
				seen[ok]++
				if ok {
					checkPlainTx(t, p, x, toSet(1), at(1, 3, toAdd(1)))
				} else {
					checkNoTx(t, p, x)
				}
			}
		}
	}
	if seen[true] < 10 || seen[false] < 40 {
		t.Fatal("this says little", seen)
	}
}

// TestTxOkByBadSnap has lists that are no clocks, or clocks for fewer or more places.
func TestTxOkByBadSnap(t *testing.T) {
	p := busyPlace()
	for place := range 3 {
		for _, count := range []int{math.MinInt, -1 << 32, -2, -1, 5, top - 1, top, top + 1, 1 << 32, math.MaxInt} {
			for _, snap := range [][]int{{4, 2, 2}, {0, 0, 0}, {1, 0, 0}} {
				snap[place] = count
				checkNoTx(t, p, txOf(0, snap))
				checkNoTx(t, p, txOf(1, snap, toAdd(1)))
			}
		}
	}
	for n := 1; n <= impl.MaxPlaces; n++ {
		for length := range 7 {
			snap := make([]int, length)
			for _, p := range []impl.Place{{N: n}, placeOf(n-1, n, chain(0, 3, n))} {
				checkTxOk(t, p, txOf(5, snap), length == n)
				if length != n {
					checkNoTx(t, p, txOf(5, snap))
				}
			}
			if length > 0 {
				snap[0] = 1
				checkTxOk(t, placeOf(n-1, n, chain(0, 3, n)), txOf(5, snap), length == n)
				checkNoTx(t, impl.Place{N: n}, txOf(5, snap)) // beyond what there is: nothing
			}
		}
	}
	checkNoTx(t, p, txOf(0, []int{4, 2}))
	checkNoTx(t, p, txOf(0, []int{4, 2, 2, 0}))
	checkNoTx(t, p, txOf(0, nil))
}

// TestTxOkByUps: so many ups as may be and one more, and ups of which one field
// alone is not as it should be, at each place among good ones.
func TestTxOkByUps(t *testing.T) {
	p := busyPlace()
	good := []impl.Up{toSet(1), at(1, 1, toAdd(2)), at(2, 3, toIns(3)), at(0, 3, toRem(4)), at(2, 0, toAdd(5))}
	for count := range impl.MaxUps + 1 {
		checkPlainTx(t, p, txNow(p, 0, good[:count]...), toSet(1), toAdd(1))
		for _, u := range badUps() {
			for k := range count {
				ups := slices.Clone(good[:count])
				ups[k] = u
				checkTxOk(t, p, txNow(p, 0, ups...), false)
				if count == 3 {
					checkNoTx(t, p, txNow(p, 0, ups...))
				}
			}
			checkTxPut(t, p, txNow(p, 0, good[:count]...), u, impl.Tx{}, impl.PmForm)
			checkTxPut(t, p, txNow(p, 1, good[:count]...), u, impl.Tx{}, impl.PmForm)
		}
	}
	for _, count := range []int{6, 7, 100, 10000} {
		ups := make([]impl.Up, count)
		checkNoTx(t, p, txNow(p, 0, ups...))
		fill(ups, toAdd(1))
		checkNoTx(t, p, txNow(p, 0, ups...))
	}
	for val := range 3 { // any Val will do
		checkPlainTx(t, p, txNow(p, 0, toSet(math.MinInt+val), toAdd(math.MaxInt-val), toIns(-val), toRem(math.MaxInt)), toSet(math.MinInt))
	}
}

// badUps gives ups of which one field alone is not as it should be, and such of
// which several are not.
func badUps() []impl.Up {
	ups := []impl.Up{{}, {Kind: -1, Bucket: -1, Key: -1}, {Kind: 9, Bucket: 9, Key: 9, Val: 9}}
	for _, kind := range []int{math.MinInt, -1 << 32, -4, -1, 0, 5, 6, 8, 1 << 32, 1<<32 + 1, math.MaxInt} {
		ups = append(ups, impl.Up{Kind: kind, Bucket: 1, Key: 1, Val: 1})
	}
	for _, bucket := range []int{math.MinInt, -1 << 32, -3, -1, 3, 4, 1 << 32, math.MaxInt} {
		ups = append(ups, at(bucket, 1, toSet(1)), at(bucket, 1, toAdd(1)))
	}
	for _, key := range []int{math.MinInt, -1 << 32, -4, -1, 4, 5, 1 << 32, math.MaxInt} {
		ups = append(ups, at(1, key, toIns(1)), at(1, key, toRem(1)))
	}
	return ups
}

// TestTxReadsItsOwn: what is read of a thing of which others wrote something
// ahead of the transaction, and the transaction writes something.
func TestTxReadsItsOwn(t *testing.T) {
	for _, c := range []struct {
		what       string
		ahead, own []impl.Up
		want       impl.Thing
	}{
		{"nothing at all", nil, nil, toldNoReg(0)},
		{"nothing of its own", []impl.Up{toSet(3), toAdd(4), toIns(5)}, nil, told(3, 4, 5)},
		{"its own alone", nil, []impl.Up{toSet(3), toAdd(4), toIns(5)}, told(3, 4, 5)},

		{"set ahead", []impl.Up{toSet(7)}, []impl.Up{toAdd(1)}, told(7, 1)},
		{"set itself", nil, []impl.Up{toSet(7)}, told(7, 0)},
		{"set to 0 itself", nil, []impl.Up{toSet(0)}, told(0, 0)},
		{"set ahead and itself", []impl.Up{toSet(7)}, []impl.Up{toSet(3)}, told(3, 0)},
		{"set ahead and to 0 itself", []impl.Up{toSet(7)}, []impl.Up{toSet(0)}, told(0, 0)},
		{"set twice itself", []impl.Up{toSet(7)}, []impl.Up{toSet(9), toAdd(1), toSet(-8)}, told(-8, 1)},
		{"set to the ends", []impl.Up{toSet(math.MaxInt)}, []impl.Up{toSet(math.MinInt)}, told(math.MinInt, 0)},

		{"added ahead", []impl.Up{toAdd(7)}, []impl.Up{toSet(1)}, told(1, 7)},
		{"added itself", nil, []impl.Up{toAdd(7)}, toldNoReg(7)},
		{"added on top", []impl.Up{toAdd(7)}, []impl.Up{toAdd(5), toAdd(-1)}, toldNoReg(11)},
		{"added back to 0", []impl.Up{toAdd(7)}, []impl.Up{toAdd(-7)}, toldNoReg(0)},
		{"added past the greatest", []impl.Up{toAdd(math.MaxInt)}, []impl.Up{toAdd(1)}, toldNoReg(math.MinInt)},
		{"added past the least", []impl.Up{toAdd(math.MinInt)}, []impl.Up{toAdd(-1)}, toldNoReg(math.MaxInt)},

		{"put in ahead", []impl.Up{toIns(7)}, []impl.Up{toAdd(1)}, toldNoReg(1, 7)},
		{"put in itself", []impl.Up{toIns(7)}, []impl.Up{toIns(3), toIns(9), toIns(-1)}, toldNoReg(0, -1, 3, 7, 9)},
		{"put in ahead and itself", []impl.Up{toIns(7)}, []impl.Up{toIns(7)}, toldNoReg(0, 7)},
		{"put in ahead, taken out itself", []impl.Up{toIns(7), toIns(8)}, []impl.Up{toRem(7)}, toldNoReg(0, 8)},
		{"taken out ahead, put in itself", []impl.Up{toIns(7), toRem(7)}, []impl.Up{toIns(7)}, toldNoReg(0, 7)},
		{"put in and taken out", nil, []impl.Up{toIns(7), toRem(7)}, toldNoReg(0)},
		{"taken out and put in", nil, []impl.Up{toRem(7), toIns(7)}, toldNoReg(0, 7)},
		{"taken out and put in what was there", []impl.Up{toIns(7)}, []impl.Up{toRem(7), toIns(7)}, toldNoReg(0, 7)},
		{"put in and taken out what was there", []impl.Up{toIns(7)}, []impl.Up{toIns(7), toRem(7)}, toldNoReg(0)},
		{"in, out, in", []impl.Up{toIns(7)}, []impl.Up{toIns(7), toRem(7), toIns(7)}, toldNoReg(0, 7)},
		{"out, in, out", []impl.Up{toIns(7)}, []impl.Up{toRem(7), toIns(7), toRem(7)}, toldNoReg(0)},
		{"taken out what is not there", []impl.Up{toIns(7)}, []impl.Up{toRem(6)}, toldNoReg(0, 7)},
		{"taken out what was put in twice", []impl.Up{toIns(7), toIns(7)}, []impl.Up{toRem(7)}, toldNoReg(0)},
		{"0 taken out", []impl.Up{toIns(0), toIns(1)}, []impl.Up{toRem(0)}, toldNoReg(0, 1)},

		{"all facets", []impl.Up{toSet(1), toAdd(2), toIns(3)}, []impl.Up{toSet(4), toAdd(5), toIns(6), toRem(3)}, told(4, 7, 6)},
		{"another thing", []impl.Up{toSet(1), toAdd(2), toIns(3)}, []impl.Up{at(0, 1, toSet(4)), at(1, 0, toAdd(5)), at(0, 3, toRem(3)), at(2, 0, toIns(9))}, told(1, 2, 3)},
	} {
		t.Run(c.what, func(t *testing.T) {
			for n := 1; n <= impl.MaxPlaces; n++ {
				s := newPost(t, n-1, n)
				s.say(impl.PmOk, gives(0, 5, 0, allRights-hand))
				for _, u := range c.ahead {
					s.say(impl.PmOk, does(0, u))
				}
				x := txNow(s.p, 5, c.own...)
				(&deal{s, x}).reads(c.want)
				checkPlainTx(t, s.p, x)
				x.Actor = 0
				(&deal{s, x}).reads(c.want)
				checkPlainTx(t, s.p, x)
			}
		})
	}
}

// TestTxReadsEachThing: each up tells of its own thing alone.
func TestTxReadsEachThing(t *testing.T) {
	for bucket := range impl.Buckets {
		for key := range impl.Keys {
			s := newPost(t, 0, 2)
			s.say(impl.PmOk, gives(0, 5, bucket, allRights))
			s.say(impl.PmOk, does(0, at(bucket, key, toSet(1)), at(bucket, key, toAdd(2)), at(bucket, key, toIns(3)), at(bucket, key, toIns(4))))
			d := s.begin(5)
			d.putAll(at(bucket, key, toSet(7)), at(bucket, key, toAdd(8)), at(bucket, key, toRem(3)), at(bucket, key, toIns(9)))
			d.reads(thingAt(bucket, key, told(7, 10, 4, 9)))
			for other := range impl.Keys {
				if other != key {
					d.reads(thingAt(bucket, other, toldNoReg(0)))
				}
			}
			for other := range impl.Buckets {
				if other != bucket {
					d.readsNothing(other, key)
				}
			}
		}
	}
}

// TestTxTakesOutWhatStandsBeside: the transaction knows all that it reads, though
// those who wrote that did not know each other.
func TestTxTakesOutWhatStandsBeside(t *testing.T) {
	d := newDiary(3)
	d.write(0, does(0, toIns(7), toIns(5)))
	d.write(1, does(0, toIns(7), toIns(6), toSet(1)))
	d.write(2, does(0, toRem(7), toRem(6), toSet(2)))
	for id := range 3 {
		s := &post{t, placeOf(id, 3, d.list())}
		x := s.begin(0)
		x.reads(told(2, 0, 5, 6, 7))
		x.put(impl.PmOk, toRem(7))
		x.reads(told(2, 0, 5, 6))
		x.put(impl.PmOk, toRem(6))
		x.reads(told(2, 0, 5))
		x.put(impl.PmOk, toSet(3))
		x.put(impl.PmOk, toIns(7))
		x.reads(told(3, 0, 5, 7))
		x.end(impl.PmOk)
		s.look(impl.PmOk, 0, impl.FcReg, 0, 0, 3)
		s.look(impl.PmOk, 0, impl.FcItems, 0, 0, 5, 7)
	}
}

// TestTxReadsWhatWas: of what has come into L since the transaction began,
// nothing is read, nor does it change what may be read and put.
func TestTxReadsWhatWas(t *testing.T) {
	s := newPost(t, 1, 3)
	given := s.say(impl.PmOk, gives(0, 1, 0, allRights))
	s.say(impl.PmOk, does(1, toSet(3), toAdd(10), toIns(2), toIns(5)))
	x, keeper, stranger := s.begin(1), s.begin(0), s.begin(2)
	x.putAll(toAdd(4), toRem(5))
	keeper.putAll(toSet(6))
	before := copyPlace(s.p)
	stay := func() {
		t.Helper()
		x.reads(told(3, 14, 2))
		x.read(impl.PmDenied, impl.FcReg, 1, 0)
		x.put(impl.PmDenied, at(1, 0, toSet(1)))
		keeper.reads(told(6, 10, 2, 5))
		keeper.reads(thingAt(1, 0, toldNoReg(0)))
		stranger.readsNothing(0, 0)
		stranger.put(impl.PmDenied, toAdd(1))
		had := copyTx(x.x)
		x.putAll(toSet(8), toIns(7), toAdd(1))
		x.reads(told(8, 15, 2, 7))
		x.put(impl.PmFull, toAdd(1))
		x.x = had
		checkPlainTx(t, s.p, x.x, toSet(1))
		checkPlainTx(t, s.p, keeper.x, toSet(1))
		checkPlainTx(t, s.p, stranger.x, toSet(1), toAdd(1))
	}
	stay()
	s.say(impl.PmOk, does(0, toSet(9), toAdd(100), toIns(8), toRem(2), at(1, 0, toSet(4)))) // an up of each kind
	stay()
	s.say(impl.PmOk, does(1, toSet(1), toRem(8)))
	stay()
	s.say(impl.PmOk, gives(0, 2, 0, allRights))
	s.say(impl.PmOk, gives(0, 1, 1, allRights))
	s.look(impl.PmOk, 2, impl.FcCount, 0, 0, 110)
	stay()
	s.say(impl.PmOk, limits(0, 0, 0))
	s.look(impl.PmDenied, 1, impl.FcCount, 0, 0)
	stay()
	s.say(impl.PmOk, takes(0, given))
	stay()
	s.p = before
	s.say(impl.PmOk, takes(0, given))
	s.look(impl.PmDenied, 1, impl.FcCount, 0, 0)
	stay()

	// acts of other places, that stand ahead of those of the transaction, or beside them
	s.p = before
	s.hearAll(impl.Act{R: 0, N: 1, Dep: []int{0, 0, 0}, Kind: impl.KdTxn, Ups: []impl.Up{toAdd(1), toIns(1)}})
	s.hearAll(impl.Act{R: 2, N: 1, Dep: []int{0, 1, 0}, Kind: impl.KdTxn, Ups: []impl.Up{toAdd(1), toIns(1), toSet(11)}})
	stay()
	s.hearAll(impl.Act{R: 2, N: 2, Dep: []int{0, 1, 1}, Kind: impl.KdRevoke, GR: 1, GN: 1})
	s.checkFlags(true, true, false, true, true) // what actor 1 did is hidden now
	s.look(impl.PmOk, 0, impl.FcReg, 0, 0, 11)
	stay()
	s.p = before
	s.hearAll(impl.Act{R: 0, N: 1, Dep: []int{0, 1, 0}, Kind: impl.KdCeil, Mask: read})
	s.checkFlags(true, true, false)
	s.look(impl.PmOk, 1, impl.FcReg, 0, 0)
	stay()
}

// TestTxOfNothing: with a Snap that is all 0 nothing is read but what the
// transaction writes, and by the keeper alone, whatever L has.
func TestTxOfNothing(t *testing.T) {
	for n := 1; n <= impl.MaxPlaces; n++ {
		for id := range n {
			for _, count := range []int{0, 1, 5} {
				s := newPost(t, id, n)
				first := s.begin(0)
				other := s.begin(5)
				for k := range count {
					s.say(impl.PmOk, []impl.Act{gives(0, 5, 0, allRights), does(5, toSet(3), toAdd(4), toIns(5))}[min(k, 1)])
				}
				checkPlainTx(t, s.p, first.x, toSet(1))
				checkPlainTx(t, s.p, other.x, toSet(1), toAdd(1), at(2, 3, toIns(1)))
				first.reads(toldNoReg(0))
				first.putAll(toAdd(1), toIns(6), toRem(5))
				first.reads(toldNoReg(1, 6))
				first.reads(thingAt(2, 3, toldNoReg(0)))
				other.readsNothing(0, 0)
				other.put(impl.PmDenied, toSet(1))
				other.end(impl.PmOk) // no ups need no rights
				a := first.end(impl.PmOk)
				if a.N != count+2 || impl.ClockSum(a.Dep) != count+1 {
					t.Fatal(a)
				}
				s.look(impl.PmOk, 0, impl.FcCount, 0, 0, 1+4*max(0, count-1))
				s.look(impl.PmOk, 0, impl.FcItems, 0, 0, 6)
			}
		}
	}
}

// TestTxByMask: with each mask that an actor may have, what they may read and put.
func TestTxByMask(t *testing.T) {
	needs := []int{0, write, add, write, write}
	for mask := range 16 {
		for _, ceiling := range []int{allRights, mask, write, add, allRights - write, allRights - add, 0} {
			s := newPost(t, 0, 2)
			s.say(impl.PmOk, gives(0, 3, 1, mask))
			s.say(impl.PmOk, limits(0, 1, ceiling))
			has := mask & ceiling
			for kind := impl.UpSet; kind <= impl.UpRem; kind++ {
				u := impl.Up{Kind: kind, Bucket: 1, Key: 2, Val: 7}
				d := s.begin(3)
				d.put(codeFor(has&needs[kind] != 0), u)
				d.put(impl.PmDenied, at(0, 2, u))
				d.put(impl.PmDenied, at(2, 2, u))
				s.begin(0).put(impl.PmOk, u)
				s.begin(5).put(impl.PmDenied, u)
				// the rights for what is there already are not asked for anew
				for bucket := range impl.Buckets {
					d.x = txNow(s.p, 3, at(bucket, 0, toSet(1)), at(bucket, 0, toAdd(1)))
					d.put(codeFor(has&needs[kind] != 0), u)
				}
			}
			// what it writes is read, whatever rights it has but that to read
			d := &deal{s, txNow(s.p, 3, at(1, 2, toSet(7)), at(1, 2, toAdd(8)), at(1, 2, toIns(9)))}
			if has&read != 0 {
				d.reads(thingAt(1, 2, told(7, 8, 9)))
			} else {
				d.readsNothing(1, 2)
			}
			d.readsNothing(0, 2)
			d.end(codeFor(has&(write+add) == write+add))
		}
	}
}

// TestTxOverHands: rights that were handed on, by rows of grants, as far as the
// transaction knows.
func TestTxOverHands(t *testing.T) {
	s := newPost(t, 0, 1)
	s.say(impl.PmOk, gives(0, 1, 0, allRights))
	one := s.begin(2)
	second := s.say(impl.PmOk, gives(1, 2, 0, read+write))
	two := s.begin(2)
	s.say(impl.PmOk, gives(0, 2, 0, add))
	three := s.begin(2)
	s.say(impl.PmOk, takes(1, second))
	four := s.begin(2)
	for k, d := range []*deal{one, two, three, four} {
		d.put(codeFor(k == 1 || k == 2), toSet(1))
		d.put(codeFor(k >= 2), toAdd(1))
		if k == 1 || k == 2 {
			d.reads(told(1, k-1))
		} else {
			d.readsNothing(0, 0)
		}
		d.end(codeFor(k == 0 || k == 3)) // one has nothing to write, four may add
	}
}

// TestTxPutsFive: as many ups as there may be, and one more.
func TestTxPutsFive(t *testing.T) {
	for _, actor := range []int{0, 1, 5} {
		s := newPost(t, 1, 2)
		s.say(impl.PmOk, gives(0, 1, 2, write))
		s.say(impl.PmOk, gives(0, 5, 2, write))
		d := s.begin(actor)
		var ups []impl.Up
		for k := range impl.MaxUps {
			ups = append(ups, at(2, k%4, toIns(k)))
			d.put(impl.PmOk, ups[k])
			if !slices.Equal(d.x.Ups, ups) || d.x.Actor != actor || !slices.Equal(d.x.Snap, []int{0, 2}) {
				t.Fatal(d.x)
			}
		}
		d.put(impl.PmFull, ups[0])
		d.put(impl.PmFull, at(2, 0, toAdd(1))) // denied, too, but to the keeper
		d.put(impl.PmFull, toSet(1))
		for _, u := range badUps() {
			d.put(impl.PmForm, u)
		}
		if a := d.end(impl.PmOk); !slices.Equal(a.Ups, ups) || !slices.Equal(a.Dep, []int{0, 2}) || a.R != 1 || a.N != 3 {
			t.Fatal(a)
		}
	}
}

// TestTxPutsFromOne: two that go on from one and the same stay two.
func TestTxPutsFromOne(t *testing.T) {
	p := busyPlace()
	x, _ := impl.TxBegin(p, 0)
	for k := range impl.MaxUps - 1 {
		x, _ = impl.TxPut(p, x, toAdd(k))
	}
	y, _ := impl.TxPut(p, x, toSet(5))
	z, _ := impl.TxPut(p, x, toIns(6))
	want := []impl.Up{toAdd(0), toAdd(1), toAdd(2), toAdd(3)}
	if !sameTx(x, txNow(p, 0, want...)) || !sameTx(y, txNow(p, 0, append(want[:4:4], toSet(5))...)) || !sameTx(z, txNow(p, 0, append(want[:4:4], toIns(6))...)) {
		t.Fatal(x, y, z)
	}
	x.Snap[0], y.Snap[0] = 77, 78
	if z.Snap[0] != 4 {
		t.Fatal("they share memory", z)
	}
}

// TestTxReasons: where several things are wrong, the one that is named first counts.
func TestTxReasons(t *testing.T) {
	s := newPost(t, 0, 2)
	given := s.say(impl.PmOk, gives(0, 1, 0, read+write))
	five := []impl.Up{toSet(1), toSet(2), toSet(3), toSet(4), toSet(5)}
	for _, actor := range []int{1, 2} {
		x := txNow(s.p, actor, five...)
		checkTxPut(t, s.p, x, toAdd(1), impl.Tx{}, impl.PmFull)
		checkTxPut(t, s.p, x, at(2, 0, toSet(1)), impl.Tx{}, impl.PmFull)
		checkTxPut(t, s.p, x, impl.Up{}, impl.Tx{}, impl.PmForm)
		for _, u := range badUps() {
			checkTxPut(t, s.p, txNow(s.p, actor), u, impl.Tx{}, impl.PmForm)
		}
		for _, wrong := range []int{math.MinInt, -1, 4, 5, math.MaxInt} {
			checkTxRead(t, s.p, x, wrong, 2, 0, nil, impl.PmForm)
			checkTxRead(t, s.p, x, 1, wrong, 0, nil, impl.PmForm)
			checkTxRead(t, s.p, x, 1, 2, wrong, nil, impl.PmForm)
		}
		checkTxRead(t, s.p, x, 1, 2, 0, nil, impl.PmDenied)
		checkNoTx(t, s.p, txNow(s.p, actor, append(five, toAdd(1))...)) // too many of them, and no right
		checkNoTx(t, s.p, txOf(actor, []int{2, 0}, five...))
		checkNoTx(t, s.p, txOf(actor, []int{0, 0, 0}))
	}
	// L is full, what it writes is denied, or it is no transaction
	s.say(impl.PmOk, takes(0, given))
	d := &deal{s, txOf(1, []int{1, 0}, five...)}
	d.end(impl.PmDenied)
	for len(s.p.L) < impl.MaxActs {
		d.end(impl.PmDenied)
		s.p.L = append(s.p.L, nextOf(s.p.L, 2, 0, does(0)))
		s.p.V = append(s.p.V, true)
	}
	d.end(impl.PmFull)
	d.reads(told(5, 0))
	checkNoTx(t, s.p, txOf(1, []int{61, 0}, five...))
	checkNoTx(t, s.p, txOf(6, []int{1, 0}, five...))
	checkNoTx(t, s.p, txOf(1, []int{1, 0}, append(five, toSet(6))...))
}

// TestTxReadNowhere asks for what is not there, also by those who may not read.
func TestTxReadNowhere(t *testing.T) {
	s := newPost(t, 0, 1)
	s.say(impl.PmOk, does(0, toSet(1), toAdd(2), toIns(3), at(2, 3, toSet(4)), at(2, 3, toIns(5))))
	for _, actor := range []int{0, 1, 5} {
		d := &deal{s, txNow(s.p, actor, toSet(1), at(2, 3, toAdd(1)))}
		for _, wrong := range []int{math.MinInt, -1 << 32, -3, -2, -1, 0, 1, 2, 3, 4, 5, 7, 256, 1 << 32, 1 << 62, math.MaxInt} {
			if wrong < impl.FcReg || wrong > impl.FcItems {
				d.read(impl.PmForm, wrong, 0, 0)
				d.read(impl.PmForm, wrong, 2, 3)
			}
			for facet := impl.FcReg; facet <= impl.FcItems; facet++ {
				if wrong < 0 || wrong >= impl.Buckets {
					d.read(impl.PmForm, facet, wrong, 0)
				}
				if wrong < 0 || wrong >= impl.Keys {
					d.read(impl.PmForm, facet, 0, wrong)
				}
			}
		}
	}
}

// TestTxEndsAtOnce: all ups are there as one act, which knows all of L as it is now.
func TestTxEndsAtOnce(t *testing.T) {
	s := newPost(t, 2, 4)
	s.say(impl.PmOk, gives(0, 5, 0, allRights))
	s.say(impl.PmOk, gives(0, 5, 2, allRights))
	s.say(impl.PmOk, does(0, toIns(1), toAdd(1)))
	d := s.begin(5)
	ups := []impl.Up{toSet(7), at(2, 3, toAdd(8)), toRem(1), at(2, 0, toIns(9)), toAdd(2)}
	d.putAll(ups...)
	s.hearAll(impl.Act{R: 0, N: 1, Dep: []int{0, 0, 3, 0}, Kind: impl.KdTxn, Ups: []impl.Up{toAdd(50), toSet(1), toIns(1), toIns(4)}})
	s.hearAll(impl.Act{R: 3, N: 1, Dep: []int{0, 0, 0, 0}, Kind: impl.KdTxn, Ups: []impl.Up{toIns(1), toAdd(500)}})
	s.say(impl.PmOk, does(5, at(2, 3, toAdd(1)), at(2, 0, toRem(9))))
	d.reads(told(7, 3))
	a := d.end(impl.PmOk)
	want := impl.Act{R: 2, N: 5, Dep: []int{1, 0, 4, 1}, Actor: 5, Kind: impl.KdTxn, Ups: ups}
	if !impl.SameAct(a, want) || !impl.SameAct(s.p.L[6], want) || len(s.p.L) != 7 {
		t.Fatal(a, s.p.L)
	}
	s.checkFlags(true, true, true, true, true, true, true)
	checkTold(t, s.p.L, 4, told(7, 553, 4), thingAt(2, 0, toldNoReg(0, 9)), thingAt(2, 3, toldNoReg(9)))
	// the transaction may be ended once more: it is another act then, behind the first one
	again := d.end(impl.PmOk)
	if again.N != 6 || !slices.Equal(again.Dep, []int{1, 0, 5, 1}) || !slices.Equal(again.Ups, ups) {
		t.Fatal(again)
	}
}

// TestTxEndsNot: if one up alone may not be written any more, none is.
func TestTxEndsNot(t *testing.T) {
	for _, lost := range []int{0, 1} {
		for _, byCeiling := range []bool{false, true} {
			s := newPost(t, 0, 3)
			first := s.say(impl.PmOk, gives(0, 4, 0, read+write))
			second := s.say(impl.PmOk, gives(0, 4, 1, read+add))
			d := s.begin(4)
			d.putAll(toSet(1), toIns(2), at(1, 3, toAdd(3)))
			allowed := copyPlace(s.p)
			if byCeiling {
				s.say(impl.PmOk, limits(0, lost, read))
			} else {
				s.say(impl.PmOk, takes(0, []impl.Act{first, second}[lost]))
			}
			before := copyPlace(s.p)
			d.end(impl.PmDenied)
			if !samePlace(before, s.p) {
				t.Fatal("something is there", s.p)
			}
			d.reads(told(1, 0, 2))
			d.reads(thingAt(1, 3, toldNoReg(3)))
			d.put(impl.PmOk, at(1, 3, toAdd(3))) // each put is allowed still
			d.end(impl.PmDenied)
			if byCeiling {
				s.say(impl.PmOk, limits(0, lost, allRights))
			} else {
				s.say(impl.PmOk, gives(0, 4, lost, write+add))
			}
			d.end(impl.PmOk)
			s.p = allowed
			d.end(impl.PmOk)
			checkTold(t, s.p.L, 3, told(1, 0, 2), thingAt(1, 3, toldNoReg(6)))
		}
	}
	// what was never put, since it is not allowed, is not written either
	s := newPost(t, 0, 1)
	for _, u := range []impl.Up{toSet(1), toAdd(1), toIns(1), toRem(1)} {
		d := s.begin(1)
		d.put(impl.PmDenied, u)
		d.x.Ups = []impl.Up{u}
		d.end(impl.PmDenied)
	}
	// a right that came after the transaction began will do
	d := &deal{s, txNow(s.p, 1, toSet(1))}
	s.say(impl.PmOk, gives(0, 1, 0, write))
	d.end(impl.PmOk)
}

// TestTxOfMaxActs: L has as many acts as it may have, or one less.
func TestTxOfMaxActs(t *testing.T) {
	s := &post{t, fullPlace(impl.MaxActs - 1)}
	d := s.begin(0)
	reader := s.begin(1)
	none := s.begin(2)
	d.putAll(toSet(1), toAdd(-8), toIns(2), toIns(3), toRem(2))
	d.reads(told(1, 50, 3))
	reader.reads(toldNoReg(58))
	s.p.Wait = append(farActs(19, 2, 3), act(2, 1, 0, 0, 0))
	d.reads(told(1, 50, 3))
	d.end(impl.PmOk)
	if len(s.p.L) != impl.MaxActs || len(s.p.Wait) != impl.MaxWait {
		t.Fatal("not all is there", len(s.p.L), len(s.p.Wait))
	}
	d.reads(told(1, 50, 3))
	for _, full := range []*deal{d, reader, none, s.begin(0), s.begin(5)} {
		full.end(impl.PmFull)
	}
	reader.x.Ups = []impl.Up{toSet(1)}
	reader.end(impl.PmFull) // and denied
	// what it writes would be act number 61 of those that it sees
	d = s.begin(0)
	d.putAll(toSet(2), toAdd(8), toRem(3), toIns(4))
	d.reads(told(2, 58, 4))
	d.end(impl.PmFull)
	for id := range 2 {
		s := &post{t, placeOf(id, 2, chain(0, impl.MaxActs, 2))}
		d := s.begin(5)
		d.readsNothing(0, 0)
		d.end(impl.PmFull)
		checkPlainTx(t, s.p, txNow(s.p, 0, toSet(1), toAdd(2)), toIns(1), impl.Up{})
	}
}

// randomSnap is most often the clock of what somebody knew.
func randomSnap(rnd *rand.Rand, l []impl.Act, n int) []int {
	snap := countsOf(l, n)
	switch k := rnd.IntN(10); {
	case k < 2:
		for place := range snap {
			snap[place] = rnd.IntN(snap[place] + 1)
		}
	case k < 4:
		snap[rnd.IntN(n)] += rnd.IntN(3) - 1
	case k < 8 && len(l) > 0:
		a := l[rnd.IntN(len(l))]
		snap = slices.Clone(a.Dep)
		snap[a.R]++
	case k == 8:
		clear(snap)
	}
	return snap
}

func randomUps(rnd *rand.Rand, count int) []impl.Up {
	var ups []impl.Up
	for range count {
		u := impl.Up{Kind: 1 + rnd.IntN(4), Val: rnd.IntN(3) - 1}
		ups = append(ups, at(rnd.IntN(6)/4, rnd.IntN(8)/7, u))
	}
	return ups
}

func TestTxAgainstThePlainOnes(t *testing.T) {
	rnd := rand.New(rand.NewPCG(8, 41))
	seen, putting, ending, reading := map[bool]int{}, map[int]int{}, map[int]int{}, map[int]int{}
	for turn := range 160 {
		n := 1 + turn%impl.MaxPlaces
		l := thingStory(rnd, n, turn%25)
		if turn%3 == 0 {
			l = randomStory(rnd, n, turn%25)
		}
		p := placeOf(rnd.IntN(n), n, l)
		checkTxBegin(t, p, turn%impl.Actors, txNow(p, turn%impl.Actors), true)
		for range 4 {
			x := txOf(rnd.IntN(4), randomSnap(rnd, l, n), randomUps(rnd, rnd.IntN(impl.MaxUps+1))...)
			ok := plainTxOk(p, x)
			seen[ok]++
			if !ok {
				checkNoTx(t, p, x)
				continue
			}
			ups := append(randomUps(rnd, 3), badUps()[rnd.IntN(30)])
			checkPlainTx(t, p, x, ups...)
			for _, u := range ups {
				_, code := plainTxPut(p, x, u)
				putting[code]++
			}
			ending[plainTxEnd(p, x).code]++
			_, code := plainTxRead(p, x, impl.FcItems, 0, 0)
			reading[code]++
		}
	}
	enough := func(counts map[int]int, codes ...int) bool {
		return !slices.ContainsFunc(codes, func(code int) bool { return counts[code] < 50 })
	}
	if seen[true] < 200 || seen[false] < 50 || !enough(putting, impl.PmOk, impl.PmForm, impl.PmDenied, impl.PmFull) ||
		!enough(ending, impl.PmOk, impl.PmDenied) || !enough(reading, impl.PmOk, impl.PmDenied) {
		t.Fatal("this says little", seen, putting, ending, reading)
	}
}

// randomDeal gives a place as it was when a transaction began there, the
// transaction with all that could be put, and what the place hears of since.
func randomDeal(rnd *rand.Rand, turn int) (impl.Place, impl.Tx, []impl.Act) {
	n := 1 + turn%impl.MaxPlaces
	id := rnd.IntN(n)
	start, rest := startOf(thingStory(rnd, n, 4+turn%20), n, id)
	p := placeOf(id, n, start)
	x, _ := impl.TxBegin(p, rnd.IntN(3))
	for _, u := range randomUps(rnd, impl.MaxUps) {
		if y, code := impl.TxPut(p, x, u); code == impl.PmOk {
			x = y
		}
	}
	return p, x, rest
}

// hearRow hears acts of which each one can be taken when it comes.
func hearRow(t *testing.T, p impl.Place, acts []impl.Act) impl.Place {
	t.Helper()
	for _, a := range acts {
		q, code := impl.Hear(p, a)
		if code != impl.HeNew {
			t.Fatal("not heard", p, a, code)
		}
		p = q
	}
	return p
}

// TestPromise8Reads: what a transaction reads is what Look would show at a place
// that knows what there was when it began, once the ups are written there.
func TestPromise8Reads(t *testing.T) {
	rnd := rand.New(rand.NewPCG(8, 1))
	told, untold, changed := 0, 0, 0
	for turn := range 60 {
		then, x, rest := randomDeal(rnd, turn)
		written, _, code := impl.TxEnd(then, x)
		if code != impl.PmOk {
			t.Fatal("each up was put, and the end is refused", code, x)
		}
		now, _, code := impl.Say(hearRow(t, then, rest), does(0, toAdd(50), toIns(50), toSet(50)))
		if code != impl.PmOk {
			t.Fatal(code)
		}
		for number := range impl.Buckets * impl.Keys * impl.FcItems {
			facet, bucket, key := 1+number/12, number/4%3, number%4
			want, wantCode := impl.Look(written, x.Actor, facet, bucket, key)
			for _, p := range []impl.Place{then, now} {
				got, code := impl.TxRead(p, x, facet, bucket, key)
				if code != wantCode || !slices.Equal(got, want) {
					t.Fatal("not what was and what it wrote", x, facet, bucket, key, got, want, code)
				}
			}
			if wantCode != impl.PmOk {
				untold++
				continue
			}
			told++
			if other, _ := impl.Look(now, 0, facet, bucket, key); !slices.Equal(other, want) {
				changed++
			}
		}
	}
	if told < 300 || untold < 300 || changed < 30 {
		t.Fatal("this says little", told, untold, changed)
	}
}

// TestPromise8AtOnce: behind an end all ups are told at once, and nothing else
// has changed; or nothing is.
func TestPromise8AtOnce(t *testing.T) {
	rnd := rand.New(rand.NewPCG(8, 2))
	codes := map[int]int{}
	for turn := range 150 {
		then, x, rest := randomDeal(rnd, turn)
		p := hearRow(t, then, rest)
		if turn%2 == 0 {
			p, _, _ = impl.Say(p, limits(0, 0, read+[]int{0, write, add}[turn%3]))
		}
		q, a, code := impl.TxEnd(p, x)
		codes[code]++
		if code != impl.PmOk {
			if code != impl.PmDenied || !samePlace(q, impl.Place{}) || !impl.SameAct(a, impl.Act{}) || len(x.Ups) == 0 {
				t.Fatal("refused, and yet there is something", x, q, a)
			}
			continue
		}
		want := nextOf(p.L, p.N, p.Id, does(x.Actor, x.Ups...))
		last := len(p.L)
		if !impl.SameAct(a, want) || len(q.L) != last+1 || !sameActs(q.L[:last], p.L) || !impl.SameAct(q.L[last], want) || !q.V[last] || !impl.PlaceOk(q) {
			t.Fatal("not one act that knows all", p, x, q)
		}
		byKeeper := nextOf(p.L, p.N, p.Id, does(0, x.Ups...))
		if !impl.SameThings(impl.Things(q.L, q.N), plainThings(append(slices.Clone(p.L), byKeeper), p.N)) {
			t.Fatal("not all ups are told", p, x, q)
		}
	}
	if codes[impl.PmOk] < 50 || codes[impl.PmDenied] < 10 {
		t.Fatal("this says little", codes)
	}
}
