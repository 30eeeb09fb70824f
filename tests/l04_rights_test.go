package tests

import (
	"math"
	"math/rand/v2"
	"slices"
	"testing"
	"time"

	"loop.example/g00717/impl"
)

const (
	read, write, add, hand = impl.RtRead, impl.RtWrite, impl.RtAdd, impl.RtGrant
	allRights              = read + write + add + hand
)

// diary takes down what places write that hear of each other now and then.
type diary struct {
	known [][]int
	acts  []impl.Act
}

func newDiary(places int) *diary {
	d := &diary{}
	for range places {
		d.known = append(d.known, make([]int, places))
	}
	return d
}

// hear lets a place know all that the other one knows.
func (d *diary) hear(place, other int) {
	for i, count := range d.known[other] {
		d.known[place][i] = max(d.known[place][i], count)
	}
}

func (d *diary) write(place int, a impl.Act) impl.Act {
	a.R, a.N, a.Dep = place, d.known[place][place]+1, slices.Clone(d.known[place])
	d.known[place][place]++
	d.acts = append(d.acts, a)
	return a
}

func (d *diary) list() []impl.Act {
	return inOrder(d.acts)
}

// writeAll takes down acts of one place, none of which another place hears of.
func writeAll(acts ...impl.Act) []impl.Act {
	d := newDiary(1)
	for _, a := range acts {
		d.write(0, a)
	}
	return d.list()
}

func gives(actor, to, bucket, mask int) impl.Act {
	return impl.Act{Actor: actor, Kind: impl.KdGrant, To: to, Bucket: bucket, Mask: mask}
}

func takes(actor int, g impl.Act) impl.Act {
	return impl.Act{Actor: actor, Kind: impl.KdRevoke, GR: g.R, GN: g.N}
}

// takesNumber takes back act number n of place 0.
func takesNumber(actor, n int) impl.Act {
	return takes(actor, impl.Act{N: n})
}

func limits(actor, bucket, mask int) impl.Act {
	return impl.Act{Actor: actor, Kind: impl.KdCeil, Bucket: bucket, Mask: mask}
}

func sets(actor int) impl.Act {
	return impl.Act{Actor: actor, Kind: impl.KdTxn, Ups: []impl.Up{{Kind: impl.UpSet, Val: 5}}}
}

func eyeAt(r, n int, dep ...int) impl.Eye {
	return impl.Eye{R: r, N: n, Dep: dep}
}

// plainEyeOf and plainNow are what EyeOf and EyeNow have to tell.
func plainEyeOf(a impl.Act) impl.Eye {
	return eyeAt(a.R, a.N, slices.Clone(a.Dep)...)
}

func plainNow(l []impl.Act, n int) impl.Eye {
	return eyeAt(-1, 0, countsOf(l, n)...)
}

// plainSight says once more what the document asks of an act set and an eye.
func plainSight(l []impl.Act, n int, e impl.Eye) bool {
	return plainSetOk(l, n) && e.R >= -1 && e.R < n && plainPair(e.Dep, countsOf(l, n)).aLeqB
}

func plainPast(a impl.Act, e impl.Eye) bool {
	return a.N <= e.Dep[a.R]
}

func plainLater(a impl.Act, e impl.Eye) bool {
	return e.R >= 0 && e.N >= 1 && e.N <= a.Dep[e.R]
}

func plainKnows(a, b impl.Act) bool {
	return b.N <= a.Dep[b.R]
}

func plainTakenBack(l []impl.Act, g impl.Act, e impl.Eye) bool {
	for _, r := range l {
		ofThis := r.Kind == 2 && r.GR == g.R && r.GN == g.N
		mayTake := r.Actor == 0 || r.Actor == g.Actor
		if ofThis && mayTake && !plainLater(r, e) {
			return true
		}
	}
	return false
}

// plainHolding goes the other way round than from a grant to who gave it: from
// the keeper on, it adds grants as long as some are handed on by those it has.
func plainHolding(l []impl.Act, e impl.Eye) []bool {
	holding := make([]bool, len(l))
	for grows := true; grows; {
		grows = false
		for k, g := range l {
			if holding[k] || g.Kind != 1 || !plainPast(g, e) || plainTakenBack(l, g, e) {
				continue
			}
			from := g.Actor == 0
			for i, h := range l {
				from = from || holding[i] && plainHandsOn(h, g)
			}
			if from {
				holding[k], grows = true, true
			}
		}
	}
	return holding
}

func plainHandsOn(h, g impl.Act) bool {
	if !plainKnows(g, h) || h.To != g.Actor || h.Bucket != g.Bucket || h.Mask/8%2 == 0 {
		return false
	}
	for _, right := range []int{1, 2, 4, 8} {
		if g.Mask/right%2 == 1 && h.Mask/right%2 == 0 {
			return false
		}
	}
	return true
}

func plainCeiling(l []impl.Act, bucket int, e impl.Eye) int {
	ceiling := 15
	for _, c := range l {
		counts := func(d impl.Act) bool { return d.Kind == 3 && d.Actor == 0 && d.Bucket == bucket }
		replaces := func(d impl.Act) bool { return counts(d) && plainPast(d, e) && plainKnows(d, c) }
		if counts(c) && !plainLater(c, e) && !slices.ContainsFunc(l, replaces) {
			ceiling &= c.Mask
		}
	}
	return ceiling
}

func plainRights(l []impl.Act, actor, bucket int, e impl.Eye) int {
	if actor < 0 || actor > 5 || bucket < 0 || bucket > 2 {
		return 0
	}
	if actor == 0 {
		return 15
	}
	rights := 0
	for k, is := range plainHolding(l, e) {
		if is && l[k].To == actor && l[k].Bucket == bucket {
			rights |= l[k].Mask
		}
	}
	return rights & plainCeiling(l, bucket, e)
}

// sight is a set of acts and an eye, in guarded memory.
type sight struct {
	n    int
	acts guardedActs
	eye  impl.Eye
	dep  guarded[int]
}

func newSight(l []impl.Act, n int, e impl.Eye) sight {
	s := sight{n: n, acts: guardActs(l), eye: e, dep: guardInts(e.Dep)}
	s.eye.Dep = s.dep.list
	return s
}

func (s sight) check(t *testing.T) {
	t.Helper()
	s.acts.check(t, "acts")
	s.dep.check(t, "Dep of the eye")
}

func checkHolds(t *testing.T, l []impl.Act, n, k int, e impl.Eye, want bool) {
	t.Helper()
	s := newSight(l, n, e)
	s.holds(t, k, want)
	s.check(t)
}

func (s sight) holds(t *testing.T, k int, want bool) {
	t.Helper()
	if got := impl.Holds(s.acts.list, s.n, k, s.eye); got != want {
		t.Fatalf("Holds(%+v, %d, %d, %+v): %v", s.acts.list, s.n, k, s.eye, got)
	}
}

func checkCeiling(t *testing.T, l []impl.Act, n, bucket int, e impl.Eye, want int) {
	t.Helper()
	s := newSight(l, n, e)
	s.ceiling(t, bucket, want)
	s.check(t)
}

func (s sight) ceiling(t *testing.T, bucket, want int) {
	t.Helper()
	if got := impl.Ceiling(s.acts.list, s.n, bucket, s.eye); got != want {
		t.Fatalf("Ceiling(%+v, %d, %d, %+v): %d, not %d", s.acts.list, s.n, bucket, s.eye, got, want)
	}
}

func checkRights(t *testing.T, l []impl.Act, n, actor, bucket int, e impl.Eye, want int) {
	t.Helper()
	s := newSight(l, n, e)
	s.rights(t, actor, bucket, want)
	s.check(t)
}

func (s sight) rights(t *testing.T, actor, bucket, want int) {
	t.Helper()
	if got := impl.Rights(s.acts.list, s.n, actor, bucket, s.eye); got != want {
		t.Fatalf("Rights(%+v, %d, %d, %d, %+v): %d, not %d", s.acts.list, s.n, actor, bucket, s.eye, got, want)
	}
}

// checkHolding asks of each act, and of numbers that no act has.
func checkHolding(t *testing.T, l []impl.Act, n int, e impl.Eye, want ...bool) {
	t.Helper()
	s := newSight(l, n, e)
	for k := range l {
		s.holds(t, k, k < len(want) && want[k])
	}
	for _, k := range []int{math.MinInt, -1, len(l), len(l) + 1, math.MaxInt} {
		s.holds(t, k, false)
	}
	s.check(t)
}

// checkSight asks everything of a good set and a good eye, twice: the second
// time nothing may have been kept.
func checkSight(t *testing.T, l []impl.Act, n int, e impl.Eye) {
	t.Helper()
	holding := plainHolding(l, e)
	s := newSight(l, n, e)
	for range 2 {
		for k := -1; k <= len(l); k++ {
			s.holds(t, k, k >= 0 && k < len(l) && holding[k])
		}
		for bucket := -1; bucket <= impl.Buckets; bucket++ {
			s.ceiling(t, bucket, plainCeiling(l, bucket, e))
			for actor := -1; actor <= impl.Actors; actor++ {
				s.rights(t, actor, bucket, plainRights(l, actor, bucket, e))
			}
		}
	}
	s.check(t)
}

// checkNoSight asks everything of a set that is none, or an eye that is not good.
func checkNoSight(t *testing.T, l []impl.Act, n int, e impl.Eye) {
	t.Helper()
	s := newSight(l, n, e)
	for _, k := range []int{math.MinInt, -1, 0, 1, len(l) - 1, len(l), math.MaxInt} {
		s.holds(t, k, false)
	}
	for _, bucket := range []int{math.MinInt, -1, 0, 1, 2, 3, math.MaxInt} {
		s.ceiling(t, bucket, 0)
		for _, actor := range []int{math.MinInt, -1, 0, 1, 2, 5, 6, math.MaxInt} {
			s.rights(t, actor, bucket, 0)
		}
	}
	s.check(t)
}

func checkEye(t *testing.T, what string, want impl.Eye, give func() impl.Eye) {
	t.Helper()
	want.Dep = slices.Clone(want.Dep)
	same := func(e impl.Eye) bool { return e.R == want.R && e.N == want.N && slices.Equal(e.Dep, want.Dep) }
	first, second := give(), give()
	if !same(first) {
		t.Fatalf("%s: %+v, not %+v", what, first, want)
	}
	overwrite(first.Dep)
	if !same(second) || !same(give()) {
		t.Fatal("answers share memory, or one is kept:", what)
	}
}

func checkEyeOf(t *testing.T, a impl.Act) {
	t.Helper()
	g := guardAct(a)
	checkEye(t, "EyeOf", impl.Eye{R: a.R, N: a.N, Dep: a.Dep}, func() impl.Eye { return impl.EyeOf(g.act) })
	g.check(t, "EyeOf")
}

func checkEyeNow(t *testing.T, l []impl.Act, n int, want ...int) {
	t.Helper()
	g := guardActs(l)
	checkEye(t, "EyeNow", eyeAt(-1, 0, want...), func() impl.Eye { return impl.EyeNow(g.list, n) })
	g.check(t, "EyeNow")
}

func TestEyeOf(t *testing.T) {
	for _, a := range append(oneOfEach(), impl.Act{}, act(0, 1, 0), act(3, 1, 5, 6, 7, 0), act(0, top, top-1)) {
		checkEyeOf(t, a)
	}
	// it asks not whether the act is good
	for _, a := range []impl.Act{
		{R: -7, N: math.MinInt, Dep: []int{-1, top + 1}}, {R: math.MaxInt, N: -1}, {N: 3, Dep: []int{}},
		{R: 9, N: 9, Dep: []int{1, 2, 3, 4, 5, 6, 7, 8, 9}, Kind: 77, Actor: -3},
	} {
		checkEyeOf(t, a)
	}
}

func TestEyeNow(t *testing.T) {
	a1, b1, a2, b2, a3 := twoPlaces()
	all := []impl.Act{a1, b1, a2, b2, a3}
	checkEyeNow(t, nil, 1, 0)
	checkEyeNow(t, []impl.Act{}, 4, 0, 0, 0, 0)
	checkEyeNow(t, all, 2, 3, 2)
	checkEyeNow(t, all[:3], 2, 2, 1)
	checkEyeNow(t, []impl.Act{b1}, 2, 0, 1)
	checkEyeNow(t, chain(2, impl.MaxActs, 3), 3, 0, 0, impl.MaxActs)
	for n := 1; n <= impl.MaxPlaces; n++ {
		l := history(n, 20, 1)
		checkEyeNow(t, l, n, countsOf(l, n)...)
	}
	// no set: no Dep
	checkEyeNow(t, chain(2, impl.MaxActs+1, 3), 3)
	checkEyeNow(t, []impl.Act{a2}, 2)
	checkEyeNow(t, []impl.Act{b1, a1}, 2)
	for _, n := range []int{math.MinInt, -1, 0, 1, 3, 4, 5, math.MaxInt} {
		checkEyeNow(t, all, n)
	}
	for _, n := range []int{math.MinInt, -1, 0, 5, math.MaxInt} {
		checkEyeNow(t, nil, n)
	}
}

func TestHoldsByGiver(t *testing.T) {
	for actor := range impl.Actors {
		for to := range impl.Actors {
			for _, mask := range []int{0, read, hand, allRights} {
				l := writeAll(gives(actor, to, 1, mask))
				checkHolding(t, l, 1, plainNow(l, 1), actor == 0)
			}
		}
	}
	// nobody hands on to themselves, nor do two to each other
	l := writeAll(gives(1, 1, 0, allRights), gives(1, 1, 0, allRights), gives(2, 1, 0, allRights), gives(1, 2, 0, allRights))
	checkHolding(t, l, 1, plainNow(l, 1))
	// other kinds of acts hold nothing
	l = writeAll(sets(0), limits(0, 0, allRights), takesNumber(0, 1), gives(0, 0, 0, 0))
	checkHolding(t, l, 1, plainNow(l, 1), false, false, false, true)
}

func TestHoldsOverHands(t *testing.T) {
	l := writeAll(
		gives(0, 1, 1, allRights),
		gives(1, 2, 1, read+write+hand),
		gives(2, 3, 1, read+hand),
		gives(3, 4, 1, read),
		gives(3, 5, 1, read+hand),
		gives(5, 0, 1, hand),
		gives(5, 1, 1, 0),
		gives(4, 5, 1, read),       // 4 may not hand on
		gives(4, 5, 1, 0),          // nothing is too much, too
		gives(3, 5, 1, write),      // 3 does not have that
		gives(3, 4, 1, write+hand), // nor all of this
		gives(2, 4, 1, allRights),  // more than 2 has
		gives(2, 4, 0, read),       // in a bucket in which 2 has nothing
		gives(2, 4, 2, read),
		gives(5, 2, 1, add), // what 5 had was handed on without it
	)
	checkHolding(t, l, 1, plainNow(l, 1), true, true, true, true, true, true, true)
	want := [impl.Actors]int{15, 15, 11, 9, 1, 9}
	for actor := range impl.Actors {
		checkRights(t, l, 1, actor, 1, plainNow(l, 1), want[actor])
		if actor > 0 {
			checkRights(t, l, 1, actor, 0, plainNow(l, 1), 0)
			checkRights(t, l, 1, actor, 2, plainNow(l, 1), 0)
		}
	}
	// an eye sees as many hands as it knows of
	for count := range len(l) + 1 {
		checkHolding(t, l, 1, eyeAt(-1, 0, count), []bool{true, true, true, true, true, true, true}[:min(count, 7)]...)
	}
}

// TestHoldsByMask: the rights given must all be in one grant that may be handed on.
func TestHoldsByMask(t *testing.T) {
	for has := range 16 {
		for given := range 16 {
			l := writeAll(gives(0, 1, 0, has), gives(1, 2, 0, given))
			mayGive := has >= hand && given&has == given
			checkHolding(t, l, 1, plainNow(l, 1), true, mayGive)
			want := 0
			if mayGive {
				want = given
			}
			checkRights(t, l, 1, 1, 0, plainNow(l, 1), has)
			checkRights(t, l, 1, 2, 0, plainNow(l, 1), want)
		}
	}
	l := writeAll(
		gives(0, 1, 0, read+hand), gives(0, 1, 0, write+hand), gives(0, 1, 0, add),
		gives(1, 2, 0, read), gives(1, 2, 0, write), gives(1, 2, 0, read+write), gives(1, 2, 0, add),
	)
	checkHolding(t, l, 1, plainNow(l, 1), true, true, true, true, true)
	checkRights(t, l, 1, 1, 0, plainNow(l, 1), allRights)
	checkRights(t, l, 1, 2, 0, plainNow(l, 1), read+write)
}

// TestHoldsByWhatWasKnown: who hands on must know that they may.
func TestHoldsByWhatWasKnown(t *testing.T) {
	d := newDiary(2)
	mine := d.write(0, gives(0, 1, 0, allRights))
	early := d.write(1, gives(1, 2, 0, read)) // beside the keeper's
	d.hear(1, 0)
	late := d.write(1, gives(1, 3, 0, read))
	l := d.list()
	at := func(a impl.Act) int { return plainFind(l, a.R, a.N) }
	now := plainNow(l, 2)
	checkHolds(t, l, 2, at(mine), now, true)
	checkHolds(t, l, 2, at(early), now, false)
	checkHolds(t, l, 2, at(late), now, true)
	// what has to hold must be past for the eye, too, though the eye knows what knows it
	checkHolds(t, l, 2, at(late), eyeAt(-1, 0, 0, 2), false)
	checkHolds(t, l, 2, at(late), eyeAt(-1, 0, 1, 1), false)
	checkHolds(t, l, 2, at(late), eyeAt(-1, 0, 1, 2), true)
	checkHolds(t, l, 2, at(mine), eyeAt(-1, 0, 1, 0), true)
	checkRights(t, l, 2, 3, 0, eyeAt(-1, 0, 0, 2), 0)
	checkRights(t, l, 2, 3, 0, now, read)
}

func TestHoldsTakenBackByWhom(t *testing.T) {
	// 1 gives to 2, who gives to 3; then somebody takes back what 1 gave
	for actor := range impl.Actors {
		l := writeAll(gives(0, 1, 0, allRights), gives(1, 2, 0, read+hand), gives(2, 3, 0, read), takesNumber(actor, 2))
		holds := actor != 0 && actor != 1
		checkHolding(t, l, 1, plainNow(l, 1), true, holds, holds)
		checkRights(t, l, 1, 1, 0, plainNow(l, 1), allRights)
		if holds {
			checkRights(t, l, 1, 2, 0, plainNow(l, 1), read+hand)
			checkRights(t, l, 1, 3, 0, plainNow(l, 1), read)
		} else {
			checkRights(t, l, 1, 2, 0, plainNow(l, 1), 0)
			checkRights(t, l, 1, 3, 0, plainNow(l, 1), 0)
		}
	}
	// what the keeper gave nobody else takes back
	for actor := range impl.Actors {
		l := writeAll(gives(0, 1, 0, allRights), takesNumber(actor, 1))
		checkHolding(t, l, 1, plainNow(l, 1), actor != 0)
	}
	// 1 takes back what they gave, though they have nothing left to give
	l := writeAll(gives(0, 1, 0, hand), gives(1, 2, 0, hand), takesNumber(0, 1), takesNumber(1, 2), gives(0, 1, 0, hand))
	checkHolding(t, l, 1, plainNow(l, 1), false, false, false, false, true)
}

func TestHoldsTakenBackWhat(t *testing.T) {
	d := newDiary(2)
	a1, b1 := d.write(0, gives(0, 1, 0, read)), d.write(1, gives(0, 1, 0, write))
	d.hear(0, 1)
	a2 := d.write(0, gives(0, 1, 0, add))
	for _, c := range []struct {
		gone impl.Act
		want int
	}{{a1, write + add}, {b1, read + add}, {a2, read + write}} {
		e := diary{known: [][]int{slices.Clone(d.known[0]), slices.Clone(d.known[1])}, acts: slices.Clone(d.acts)}
		e.write(0, takes(0, c.gone))
		l := e.list()
		checkRights(t, l, 2, 1, 0, plainNow(l, 2), c.want)
		for k, a := range l {
			checkHolds(t, l, 2, k, plainNow(l, 2), a.Kind == impl.KdGrant && !impl.SameAct(a, c.gone))
		}
	}
	// to take back an act of another kind, or a taking back, changes nothing
	l := writeAll(gives(0, 1, 0, read), takesNumber(0, 1), takesNumber(0, 2), limits(0, 0, write+read), takesNumber(0, 4), gives(0, 1, 0, allRights))
	checkHolding(t, l, 1, plainNow(l, 1), false, false, false, false, false, true)
	checkRights(t, l, 1, 1, 0, plainNow(l, 1), read+write)
}

// TestHoldsByAnotherRow: what one row gives stays, when the other one is cut;
// and a new grant does not bring back what was handed on by the old one.
func TestHoldsByAnotherRow(t *testing.T) {
	l := writeAll(
		gives(0, 1, 0, read+hand),
		gives(0, 2, 0, read+write+hand),
		gives(1, 3, 0, read+hand),
		gives(2, 3, 0, read+write+hand),
		gives(3, 4, 0, read),
		gives(3, 5, 0, write),
		takesNumber(0, 2),
		gives(0, 2, 0, read+write+hand),
	)
	checkHolding(t, l, 1, plainNow(l, 1), true, false, true, false, true, false, false, true)
	checkHolding(t, l, 1, eyeAt(0, 7, 6), true, false, true, false, true)
	checkHolding(t, l, 1, eyeAt(0, 6, 6), true, true, true, true, true, true)
	checkHolding(t, l, 1, eyeAt(0, 6, 5), true, true, true, true, true)
}

// TestTakenBackBeside: a right is taken back at one place while it is used at another.
func TestTakenBackBeside(t *testing.T) {
	d := newDiary(3)
	given := d.write(0, gives(0, 1, 0, read+write))
	d.hear(1, 0)
	used := d.write(1, sets(1))
	only := d.list() // neither knows of the other yet
	taken := d.write(0, takes(0, given))
	d.hear(2, 1)
	one := d.write(2, sets(1)) // knows of the use
	d.hear(2, 0)
	both := d.write(2, sets(1))
	l := d.list()
	at := func(a impl.Act) int { return plainFind(l, a.R, a.N) }
	if !plainSetOk(l, 3) || at(both) != 4 {
		t.Fatal(l)
	}
	for _, c := range []struct {
		l    []impl.Act
		e    impl.Eye
		want bool
	}{
		{only, plainEyeOf(given), false}, // not past for itself
		{only, plainEyeOf(used), true},
		{only, plainNow(only, 3), true},
		{only, eyeAt(-1, 0, 0, 1, 0), false},
		{only, eyeAt(-1, 0, 1, 0, 0), true},
		// the one who takes back knows of none of these
		{l, plainEyeOf(used), false}, {l, plainEyeOf(one), false}, {l, plainEyeOf(both), false},
		{l, plainEyeOf(taken), false}, // neither past nor later for itself
		{l, plainNow(l, 3), false},
		// for an eye of no place nothing is later, whatever it knows
		{l, eyeAt(-1, 0, 1, 0, 0), false}, {l, eyeAt(-1, 0, 1, 1, 0), false}, {l, eyeAt(-1, 0, 2, 0, 0), false},
		{l, eyeAt(-1, 0, 2, 1, 0), false}, {l, eyeAt(-1, 1, 1, 0, 0), false},
		// the eye of act number 1 of place 0 was there ahead of the taking back
		{l, eyeAt(0, 1, 0, 0, 0), false}, {l, eyeAt(0, 1, 1, 0, 0), true}, {l, eyeAt(0, 1, 2, 1, 2), true},
		{l, eyeAt(0, 2, 1, 0, 0), false}, {l, eyeAt(0, 0, 1, 0, 0), false}, {l, eyeAt(0, -1, 1, 0, 0), false},
		{l, eyeAt(0, math.MinInt, 1, 0, 0), false}, {l, eyeAt(0, math.MaxInt, 1, 0, 0), false},
		{l, eyeAt(1, 1, 1, 0, 0), false}, {l, eyeAt(2, 1, 1, 0, 0), false},
	} {
		checkHolds(t, c.l, 3, 0, c.e, c.want)
		rights := 0
		if c.want {
			rights = read + write
		}
		checkRights(t, c.l, 3, 1, 0, c.e, rights)
		checkSight(t, c.l, 3, c.e)
	}
}

// TestTakenBackLater: who took it back knew of the use.
func TestTakenBackLater(t *testing.T) {
	d := newDiary(2)
	given := d.write(0, gives(0, 1, 0, read+write))
	d.hear(1, 0)
	used := d.write(1, sets(1))
	d.hear(0, 1)
	taken := d.write(0, takes(0, given))
	again := d.write(1, sets(1)) // beside it
	d.hear(1, 0)
	last := d.write(1, sets(1))
	l := d.list()
	for _, c := range []struct {
		e    impl.Eye
		want bool
	}{
		{plainEyeOf(given), false},
		{plainEyeOf(used), true}, {plainEyeOf(again), false}, {plainEyeOf(last), false},
		{plainEyeOf(taken), false}, {plainNow(l, 2), false},
		{eyeAt(1, 1, 1, 0), true}, {eyeAt(1, 1, 2, 3), true}, {eyeAt(1, 1, 0, 3), false},
		{eyeAt(1, 2, 1, 1), false}, {eyeAt(1, 3, 1, 1), false}, {eyeAt(1, 0, 1, 0), false}, {eyeAt(-1, 1, 1, 0), false},
	} {
		checkHolds(t, l, 2, 0, c.e, c.want)
		checkSight(t, l, 2, c.e)
	}
}

// TestTakenBackHandsBehind: a hand in the middle is cut at another place.
func TestTakenBackHandsBehind(t *testing.T) {
	d := newDiary(3)
	first := d.write(0, gives(0, 1, 2, allRights))
	d.hear(1, 0)
	second := d.write(1, gives(1, 2, 2, read+write+hand))
	d.hear(2, 1)
	third := d.write(2, gives(2, 3, 2, write))
	ahead := d.write(2, sets(3))
	d.hear(1, 2)
	cut := d.write(1, takes(1, second))
	behind := d.write(2, sets(3))
	l := d.list()
	at := func(a impl.Act) int { return plainFind(l, a.R, a.N) }
	for _, c := range []struct {
		e                    impl.Eye
		first, second, third bool
		rights               int
	}{
		{plainEyeOf(third), true, true, false, 0},
		{plainEyeOf(ahead), true, true, true, write},
		{plainEyeOf(behind), true, false, false, 0},
		{plainEyeOf(cut), true, false, false, 0},
		{plainNow(l, 3), true, false, false, 0},
	} {
		checkHolds(t, l, 3, at(first), c.e, c.first)
		checkHolds(t, l, 3, at(second), c.e, c.second)
		checkHolds(t, l, 3, at(third), c.e, c.third)
		checkRights(t, l, 3, 3, 2, c.e, c.rights)
	}
}

func TestCeilingByHand(t *testing.T) {
	for _, c := range []struct {
		what string
		acts []impl.Act
		want [impl.Buckets]int
	}{
		{"none", nil, [3]int{15, 15, 15}},
		{"one", []impl.Act{limits(0, 1, 6)}, [3]int{15, 6, 15}},
		{"nothing is left", []impl.Act{limits(0, 2, 0)}, [3]int{15, 15, 0}},
		{"one in each bucket", []impl.Act{limits(0, 0, 1), limits(0, 1, 2), limits(0, 2, 4)}, [3]int{1, 2, 4}},
		{"one behind the other", []impl.Act{limits(0, 0, 3), limits(0, 0, 6)}, [3]int{6, 15, 15}},
		{"higher again", []impl.Act{limits(0, 0, 0), limits(0, 0, 15)}, [3]int{15, 15, 15}},
		{"three behind each other", []impl.Act{limits(0, 0, 3), limits(0, 0, 6), limits(0, 0, 12)}, [3]int{12, 15, 15}},
		{"of another bucket behind it", []impl.Act{limits(0, 0, 3), limits(0, 1, 6)}, [3]int{3, 6, 15}},
		{"of others", []impl.Act{limits(1, 0, 3), limits(5, 1, 0)}, [3]int{15, 15, 15}},
		{"of another behind it", []impl.Act{limits(0, 0, 3), limits(1, 0, 15)}, [3]int{3, 15, 15}},
		{"of another ahead of it", []impl.Act{limits(1, 0, 3), limits(0, 0, 6)}, [3]int{6, 15, 15}},
		{"acts of other kinds", []impl.Act{limits(0, 0, 3), gives(0, 1, 0, 12), sets(0), takesNumber(0, 1)}, [3]int{3, 15, 15}},
	} {
		t.Run(c.what, func(t *testing.T) {
			l := writeAll(c.acts...)
			for bucket, want := range c.want {
				checkCeiling(t, l, 1, bucket, plainNow(l, 1), want)
				checkRights(t, l, 1, 0, bucket, plainNow(l, 1), 15)
			}
			for _, bucket := range []int{math.MinInt, -1, impl.Buckets, math.MaxInt} {
				checkCeiling(t, l, 1, bucket, plainNow(l, 1), 15)
				checkRights(t, l, 1, 0, bucket, plainNow(l, 1), 0)
			}
		})
	}
}

// TestCeilingsBeside has two ceilings beside each other, one that knows both, and
// those who look at them from here and there.
func TestCeilingsBeside(t *testing.T) {
	d := newDiary(3)
	given := d.write(0, gives(0, 1, 0, allRights))
	d.hear(1, 0)
	left := d.write(0, limits(0, 0, read+write))
	right := d.write(1, limits(0, 0, write+add))
	d.hear(2, 0)
	looks := d.write(2, sets(1)) // knows of left alone
	d.hear(0, 1)
	above := d.write(0, limits(0, 0, add+hand))
	d.hear(2, 0)
	last := d.write(2, sets(1))
	l := d.list()
	for _, c := range []struct {
		e                impl.Eye
		ceiling, granted int
	}{
		{plainNow(l, 3), add + hand, allRights}, {plainEyeOf(last), add + hand, allRights},
		// above is beside the eye: it counts, but replaces none
		{plainEyeOf(looks), 0, allRights}, {eyeAt(-1, 0, 2, 1, 0), 0, allRights},
		{plainEyeOf(above), 0, allRights},                                           // so it does for its own eye
		{plainEyeOf(left), write, allRights}, {plainEyeOf(right), write, allRights}, // above is later
		{eyeAt(0, 2, 2, 1, 0), write, allRights}, {eyeAt(1, 1, 2, 1, 0), write, allRights},
		{plainEyeOf(given), allRights, 0}, // all of them are later
		{eyeAt(0, 1, 1, 0, 0), allRights, allRights}, {eyeAt(0, 0, 1, 0, 0), 0, allRights},
		{eyeAt(0, math.MinInt, 1, 0, 0), 0, allRights}, {eyeAt(0, math.MaxInt, 1, 0, 0), 0, allRights},
		{eyeAt(-1, 1, 1, 0, 0), 0, allRights}, {eyeAt(-1, 0, 0, 0, 0), 0, 0},
		{eyeAt(-1, 0, 3, 0, 0), add + hand, allRights},
		// above is past and later at once: it replaces both, and does not count
		{eyeAt(1, 1, 3, 0, 0), allRights, allRights},
	} {
		checkCeiling(t, l, 3, 0, c.e, c.ceiling)
		checkCeiling(t, l, 3, 1, c.e, allRights)
		checkRights(t, l, 3, 1, 0, c.e, c.ceiling&c.granted)
		checkRights(t, l, 3, 0, 0, c.e, allRights)
		checkSight(t, l, 3, c.e)
	}
}

func TestRightsUnderCeilings(t *testing.T) {
	l := writeAll(
		gives(0, 1, 0, read+hand), gives(0, 1, 0, write), gives(0, 1, 1, add), gives(0, 5, 2, allRights), gives(0, 0, 2, read),
		limits(0, 0, write+add), limits(0, 1, 0), limits(5, 2, 0), gives(1, 3, 0, read),
	)
	for _, c := range []struct {
		actor int
		want  [impl.Buckets]int
	}{
		{0, [3]int{15, 15, 15}}, {1, [3]int{write}}, {2, [3]int{}},
		{3, [3]int{}}, // what is handed on may be over the ceiling, which then leaves nothing of it
		{4, [3]int{}}, {5, [3]int{0, 0, 15}},
		{math.MinInt, [3]int{}}, {-1, [3]int{}}, {impl.Actors, [3]int{}}, {math.MaxInt, [3]int{}},
	} {
		for bucket, want := range c.want {
			checkRights(t, l, 1, c.actor, bucket, plainNow(l, 1), want)
		}
		for _, bucket := range []int{math.MinInt, -1, impl.Buckets, math.MaxInt} {
			checkRights(t, l, 1, c.actor, bucket, plainNow(l, 1), 0)
		}
	}
	checkHolds(t, l, 1, 8, plainNow(l, 1), true)
	// ceilings that are later leave all of it
	checkRights(t, l, 1, 3, 0, eyeAt(0, 5, 9), read)
	checkRights(t, l, 1, 1, 0, eyeAt(0, 5, 9), read+write+hand)
	checkRights(t, l, 1, 1, 0, eyeAt(0, 6, 9), write)
	checkRights(t, l, 1, 1, 1, eyeAt(0, 6, 9), add)
	checkRights(t, l, 1, 1, 1, eyeAt(0, 7, 9), 0)
}

func TestRightsOfNoActs(t *testing.T) {
	for n := 1; n <= impl.MaxPlaces; n++ {
		none := make([]int, n)
		for r := -1; r < n; r++ {
			checkSight(t, nil, n, eyeAt(r, 1, none...))
			checkCeiling(t, nil, n, 2, eyeAt(r, 0, none...), 15)
			checkRights(t, nil, n, 0, 2, eyeAt(r, 0, none...), 15)
			checkRights(t, nil, n, 1, 2, eyeAt(r, 0, none...), 0)
			checkHolding(t, []impl.Act{}, n, eyeAt(r, 0, none...))
		}
		checkNoSight(t, nil, n, eyeAt(-2, 0, none...))
		checkNoSight(t, nil, n, eyeAt(n, 0, none...))
		checkNoSight(t, nil, n, eyeAt(-1, 0))
		checkNoSight(t, nil, n, eyeAt(-1, 0, append(none, 0)...))
		checkNoSight(t, nil, n, eyeAt(-1, 0, none[1:]...))
		none[n-1] = 1
		checkNoSight(t, nil, n, eyeAt(-1, 0, none...))
	}
}

// threePlaces have handed on, taken back and limited, each a little.
func threePlaces() []impl.Act {
	d := newDiary(3)
	given := d.write(0, gives(0, 1, 0, allRights))
	d.write(1, limits(0, 0, read+write))
	d.hear(1, 0)
	d.write(1, gives(1, 2, 0, read))
	d.hear(2, 1)
	d.write(2, takes(0, given))
	d.write(0, sets(1))
	return d.list()
}

func TestNoGoodEye(t *testing.T) {
	l := threePlaces()
	full := countsOf(l, 3)
	for _, r := range []int{-1, 0, 1, 2} {
		for _, n := range []int{math.MinInt, -1, 0, 1, 2, 3, math.MaxInt} {
			checkSight(t, l, 3, eyeAt(r, n, full...))
			checkSight(t, l, 3, eyeAt(r, n, 0, 0, 0))
		}
	}
	for _, r := range []int{math.MinInt, -3, -2, 3, 4, math.MaxInt} {
		checkNoSight(t, l, 3, eyeAt(r, 1, full...))
		checkNoSight(t, l, 3, eyeAt(r, 1, 0, 0, 0))
	}
	for place, count := range full {
		for _, wrong := range []int{math.MinInt, -1, count + 1, top, top + 1, math.MaxInt} {
			dep := slices.Clone(full)
			dep[place] = wrong
			checkNoSight(t, l, 3, eyeAt(-1, 0, dep...))
			checkNoSight(t, l, 3, eyeAt(0, 1, dep...))
		}
	}
	for _, dep := range [][]int{nil, {}, {0}, {1}, {0, 0}, {1, 1}, {0, 0, 0, 0}, {1, 1, 1, 0}, {0, 0, 0, 0, 0}} {
		checkNoSight(t, l, 3, eyeAt(-1, 0, dep...))
		checkNoSight(t, l, 3, eyeAt(2, 1, dep...))
	}
	checkNoSight(t, l, 3, impl.Eye{})
}

func TestNoGoodSet(t *testing.T) {
	l := threePlaces()
	full := countsOf(l, 3)
	for _, n := range []int{math.MinInt, -1, 0, 1, 2, 4, 5, math.MaxInt} {
		checkNoSight(t, l, n, eyeAt(-1, 0, full...))
		checkNoSight(t, l, n, eyeAt(-1, 0, make([]int, max(0, min(n, 9)))...))
	}
	for _, n := range []int{math.MinInt, -1, 0, 5, math.MaxInt} {
		checkNoSight(t, nil, n, eyeAt(-1, 0, make([]int, max(0, min(n, 9)))...))
		checkNoSight(t, nil, n, eyeAt(-1, 0))
	}
	refused := 0
	for _, m := range spoiled(l) {
		if plainSetOk(m, 3) {
			checkSight(t, m, 3, plainNow(m, 3))
			continue
		}
		refused++
		checkNoSight(t, m, 3, eyeAt(-1, 0, full...))
		checkNoSight(t, m, 3, eyeAt(0, 1, 0, 0, 0))
	}
	if refused < 50 {
		t.Fatal("this says little", refused)
	}
}

// inTime fails if something takes ages, such as to ask anew, for each of many
// grants, for each one of those that it may rest on.
func inTime(t *testing.T, do func()) {
	t.Helper()
	done := make(chan struct{})
	go func() {
		defer close(done)
		do()
	}()
	select {
	case <-done:
	case <-time.After(30 * time.Second):
		t.Fatal("this takes ages")
	}
}

func TestRightsOfMaxActs(t *testing.T) {
	// a row of hands as long as can be, to each actor by turns
	row := []impl.Act{gives(0, 1, 0, allRights)}
	for len(row) <= impl.MaxActs {
		from := row[len(row)-1].To
		row = append(row, gives(from, from%5+1, 0, allRights))
	}
	l := writeAll(row[:impl.MaxActs]...)
	last := impl.MaxActs - 1
	inTime(t, func() {
		now := plainNow(l, 1)
		for _, k := range []int{0, 1, last - 1, last} {
			checkHolds(t, l, 1, k, now, true)
		}
		checkHolds(t, l, 1, last+1, now, false)
		checkHolds(t, l, 1, last, eyeAt(-1, 0, last), false)
		checkHolds(t, l, 1, last-1, eyeAt(-1, 0, last), true)
		checkRights(t, l, 1, 5, 0, now, allRights)
	})
	more := writeAll(row...)
	checkNoSight(t, more, 1, plainNow(more, 1))
	checkNoSight(t, more, 1, plainNow(l, 1))
}

// TestRightsFromNobody: each grant may rest on each one ahead of it, and none holds.
func TestRightsFromNobody(t *testing.T) {
	selfMade := []impl.Act{gives(2, 1, 0, allRights)}
	for len(selfMade) < impl.MaxActs {
		selfMade = append(selfMade, gives(1, 1, 0, allRights))
	}
	l := writeAll(selfMade...)
	cut := slices.Clone(selfMade)
	cut[0], cut[impl.MaxActs-1] = gives(0, 1, 0, allRights), takesNumber(0, 1)
	m := writeAll(cut...)
	inTime(t, func() {
		checkHolding(t, l, 1, plainNow(l, 1))
		checkRights(t, l, 1, 1, 0, plainNow(l, 1), 0)
		checkHolding(t, m, 1, plainNow(m, 1))
		checkRights(t, m, 1, 1, 0, plainNow(m, 1), 0)
		checkHolds(t, m, 1, impl.MaxActs-2, eyeAt(0, impl.MaxActs-1, impl.MaxActs-1), true)
	})
}

// randomActs gives what actors wrote who hand on, take back and limit without asking
// whether they may. The source is seeded: each run has the same acts.
func randomActs(rnd *rand.Rand, places, count int) []impl.Act {
	d := newDiary(places)
	actor := func() int { return max(0, rnd.IntN(5)-1) } // most often the keeper
	bucket := func() int { return rnd.IntN(6) / 5 }      // most often one and the same
	for len(d.acts) < count {
		place := rnd.IntN(places)
		if rnd.IntN(3) > 0 {
			d.hear(place, rnd.IntN(places))
		}
		switch kind := rnd.IntN(12); {
		case kind < 8:
			d.write(place, gives(actor(), 1+rnd.IntN(3), bucket(), rnd.IntN(16)|[]int{0, hand, allRights}[rnd.IntN(3)]))
		case kind < 10:
			d.write(place, limits(rnd.IntN(3)/2, bucket(), rnd.IntN(16)|rnd.IntN(16)))
		case kind < 11:
			d.write(place, randomRevoke(rnd, actor(), d.known[place]))
		default:
			d.write(place, sets(actor()))
		}
	}
	return d.list()
}

func randomRevoke(rnd *rand.Rand, actor int, known []int) impl.Act {
	place := rnd.IntN(len(known))
	if known[place] == 0 {
		return sets(actor)
	}
	return takes(actor, impl.Act{R: place, N: 1 + rnd.IntN(known[place])})
}

// randomEye gives a good eye, which need not be the eye of an act, nor know what
// those acts knew that it knows.
func randomEye(rnd *rand.Rand, l []impl.Act, n int) impl.Eye {
	dep := countsOf(l, n)
	e := eyeAt(rnd.IntN(n+1)-1, rnd.IntN(len(l)+2)-1)
	for _, count := range dep {
		e.Dep = append(e.Dep, count-min(count, rnd.IntN(3)*rnd.IntN(3)))
	}
	return e
}

func TestRightsAgainstThePlainOnes(t *testing.T) {
	rnd := rand.New(rand.NewPCG(4, 17))
	holding := map[bool]int{}
	ceilings, rights := map[int]int{}, map[int]int{}
	for turn := range 60 {
		n := 1 + turn%impl.MaxPlaces
		l := randomActs(rnd, n, 4+turn%20)
		eyes := []impl.Eye{plainNow(l, n)}
		for i, a := range l {
			if i%3 == turn%3 {
				eyes = append(eyes, plainEyeOf(a))
			}
		}
		for range 4 {
			eyes = append(eyes, randomEye(rnd, l, n))
		}
		for _, e := range eyes {
			if !plainSight(l, n, e) {
				t.Fatal("no good eye", l, n, e)
			}
			checkSight(t, l, n, e)
			for k, is := range plainHolding(l, e) {
				if l[k].Kind == impl.KdGrant && l[k].Actor > 0 {
					holding[is]++
				}
			}
			ceilings[plainCeiling(l, 0, e)]++
			rights[plainRights(l, 1, 0, e)]++
		}
	}
	if holding[true] < 100 || holding[false] < 100 || len(ceilings) < 14 || len(rights) < 14 {
		t.Fatal("this says little", holding, ceilings, rights)
	}
}

// TestPromise4FromTheKeeper: a grant that holds comes from the keeper by a row of
// such as may hand on what they have, and nobody has more than the ceiling.
func TestPromise4FromTheKeeper(t *testing.T) {
	rnd := rand.New(rand.NewPCG(4, 1))
	longest := 0
	for turn := range 80 {
		n := 1 + turn%impl.MaxPlaces
		l := randomActs(rnd, n, 24)
		e := plainNow(l, n)
		if turn%2 == 1 {
			e = plainEyeOf(l[len(l)-1])
		}
		for k, g := range l {
			if impl.Holds(l, n, k, e) {
				longest = max(longest, rowFromKeeper(t, l, n, g, e))
			}
		}
		for actor := 1; actor < impl.Actors; actor++ {
			for bucket := range impl.Buckets {
				if rights := impl.Rights(l, n, actor, bucket, e); rights|impl.Ceiling(l, n, bucket, e) != impl.Ceiling(l, n, bucket, e) {
					t.Fatal("over the ceiling", l, e, actor, bucket, rights)
				}
			}
		}
	}
	if longest < 5 {
		t.Fatal("this says little", longest)
	}
}

// rowFromKeeper gives how many grants, one resting on the other, lead from the
// keeper to g.
func rowFromKeeper(t *testing.T, l []impl.Act, n int, g impl.Act, e impl.Eye) int {
	t.Helper()
	if g.Kind != impl.KdGrant || !plainPast(g, e) || plainTakenBack(l, g, e) {
		t.Fatal("this does not hold", l, e, g)
	}
	if g.Actor == 0 {
		return 1
	}
	for k, h := range slices.Backward(l) {
		if h.Kind == impl.KdGrant && plainHandsOn(h, g) && impl.Holds(l, n, k, e) {
			return 1 + rowFromKeeper(t, l, n, h, e)
		}
	}
	t.Fatal("nobody has handed this on", l, e, g)
	return 0
}

// TestPromise4TakenBack: what is taken back does not hold, and nothing that was
// handed on by it alone, but for what was known then.
func TestPromise4TakenBack(t *testing.T) {
	rnd := rand.New(rand.NewPCG(4, 2))
	lost := 0
	for turn := range 60 {
		n := 1 + turn%impl.MaxPlaces
		l := randomActs(rnd, n, 16)
		now := impl.EyeNow(l, n)
		for k, g := range l {
			if !impl.Holds(l, n, k, now) {
				continue
			}
			lost++
			r := takes(g.Actor*(turn%2), g)
			r.R, r.N, r.Dep = turn%n, now.Dep[turn%n]+1, now.Dep
			more, ok := impl.AddAct(l, n, r)
			if !ok {
				t.Fatal("it is not taken back", l, r)
			}
			at := plainFind(more, g.R, g.N)
			checkHolds(t, more, n, at, impl.EyeNow(more, n), false)
			checkHolds(t, more, n, at, impl.EyeOf(r), false)
			for i, a := range l {
				checkHolds(t, more, n, at, impl.EyeOf(a), impl.Holds(l, n, k, impl.EyeOf(a)))
				b := plainFind(more, a.R, a.N)
				checkHolds(t, more, n, b, impl.EyeOf(l[len(l)-1]), impl.Holds(l, n, i, impl.EyeOf(l[len(l)-1])))
			}
		}
	}
	if lost < 200 {
		t.Fatal("this says little", lost)
	}
}

// TestEyesShareNoMemory: an eye made of an act or of a set may be written over,
// and neither changes.
func TestEyesShareNoMemory(t *testing.T) {
	l := threePlaces()
	g := guardActs(l)
	for _, a := range g.list {
		overwrite(impl.EyeOf(a).Dep)
	}
	overwrite(impl.EyeNow(g.list, 3).Dep)
	g.check(t, "eyes")
	if !sameActs(g.list, threePlaces()) {
		t.Fatal(g.list)
	}
}
