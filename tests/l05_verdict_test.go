package tests

import (
	"math"
	"math/rand/v2"
	"slices"
	"testing"

	"loop.example/g00717/impl"
)

// does is a transaction.
func does(actor int, ups ...impl.Up) impl.Act {
	return impl.Act{Actor: actor, Kind: impl.KdTxn, Ups: ups}
}

func up(kind, bucket int) impl.Up {
	return impl.Up{Kind: kind, Bucket: bucket, Key: kind - 1, Val: 7}
}

// allBut gives a flag for each act: false for those that are hidden.
func allBut(l []impl.Act, hidden ...impl.Act) []bool {
	var flags []bool
	for _, a := range l {
		flags = append(flags, plainFind(hidden, a.R, a.N) < 0)
	}
	return flags
}

// plainNeeds gives what a transaction asks for in a bucket: to write, and to add.
func plainNeeds(a impl.Act, bucket int) (writes, adds bool) {
	for _, u := range a.Ups {
		writes = writes || u.Bucket == bucket && u.Kind != 2
		adds = adds || u.Bucket == bucket && u.Kind == 2
	}
	return writes, adds
}

// plainCounts says once more what the document asks of act number k of a good set.
func plainCounts(l []impl.Act, k int) bool {
	a := l[k]
	if a.Kind != 4 {
		return true
	}
	for bucket := range 3 {
		writes, adds := plainNeeds(a, bucket)
		rights := plainRights(l, a.Actor, bucket, plainEyeOf(a))
		if writes && rights/2%2 == 0 || adds && rights/4%2 == 0 {
			return false
		}
	}
	return true
}

func plainVerdicts(l []impl.Act, n int) []bool {
	var flags []bool
	if plainSetOk(l, n) {
		for k := range l {
			flags = append(flags, plainCounts(l, k))
		}
	}
	return flags
}

func plainTouched(l []impl.Act, n int, a impl.Act) []int {
	var numbers []int
	if !plainSetOk(l, n) {
		return nil
	}
	for k, b := range l {
		knows := b.R < len(a.Dep) && b.N <= a.Dep[b.R]
		isKnown := a.R >= 0 && a.R < n && a.N >= 1 && a.N <= b.Dep[a.R]
		if !knows && !isKnown {
			numbers = append(numbers, k)
		}
	}
	return numbers
}

func plainUpdate(l []impl.Act, n int, v []bool, a impl.Act) ([]impl.Act, []bool, bool) {
	more, ok := plainAdd(l, n, a)
	if !ok || len(v) != len(l) {
		return nil, nil, false
	}
	touched := plainTouched(l, n, a)
	var flags []bool
	for k, b := range more {
		before := plainFind(l, b.R, b.N)
		if before < 0 || slices.Contains(touched, before) {
			flags = append(flags, plainCounts(more, k))
		} else {
			flags = append(flags, v[before])
		}
	}
	return more, flags, true
}

// checkList asks twice for a list, and overwrites what comes back first, with
// the spare room behind it: neither the second nor a third answer may change.
func checkList[T comparable](t *testing.T, what string, want []T, other func(T) T, give func() []T) {
	t.Helper()
	first, second := give(), give()
	if !slices.Equal(first, want) {
		t.Fatalf("%s: %v, not %v", what, first, want)
	}
	first = first[:cap(first)]
	for i, x := range first {
		first[i] = other(x)
	}
	if !slices.Equal(second, want) || !slices.Equal(give(), want) {
		t.Fatal("answers share memory, or one is kept:", what)
	}
}

func not(flag bool) bool { return !flag }

func guardFlags(v []bool) guarded[bool] {
	return guard(v, func(i int) bool { return i%2 == 0 })
}

// checkCounts asks Counts of each act and of numbers that no act has, and Verdicts.
func checkCounts(t *testing.T, l []impl.Act, n int, want ...bool) {
	t.Helper()
	g := guardActs(l)
	numbers := []int{math.MinInt, -len(l), -2, -1, len(l), len(l) + 1, math.MaxInt}
	for k := range l {
		numbers = append(numbers, k)
	}
	for _, k := range numbers {
		if got := impl.Counts(g.list, n, k); got != (k >= 0 && k < len(want) && want[k]) {
			t.Fatalf("Counts(%+v, %d, %d): %v", l, n, k, got)
		}
	}
	checkList(t, "Verdicts", want, not, func() []bool { return impl.Verdicts(g.list, n) })
	g.check(t, "Counts, Verdicts")
}

func checkTouched(t *testing.T, l []impl.Act, n int, a impl.Act, want ...int) {
	t.Helper()
	g, h := guardActs(l), guardAct(a)
	change := func(k int) int { return -k - 77 }
	checkList(t, "Touched", want, change, func() []int { return impl.Touched(g.list, n, h.act) })
	g.check(t, "Touched, acts")
	h.check(t, "Touched, act")
}

// updated is what Update gives.
type updated struct {
	acts  []impl.Act
	flags []bool
	ok    bool
}

func checkUpdate(t *testing.T, l []impl.Act, n int, v []bool, a impl.Act, want updated) {
	t.Helper()
	g, h, f := guardActs(l), guardAct(a), guardFlags(v)
	update := func() updated {
		acts, flags, ok := impl.Update(g.list, n, f.list, h.act)
		if ok != want.ok {
			t.Fatalf("Update(%+v, %d, %v, %+v): %v", l, n, v, a, ok)
		}
		return updated{acts, flags, ok}
	}
	checkActs(t, "Update, acts", want.acts, func() []impl.Act { return update().acts })
	checkList(t, "Update, flags", want.flags, not, func() []bool { return update().flags })
	g.check(t, "Update, acts")
	h.check(t, "Update, act")
	f.check(t, "Update, flags")
}

func checkNoUpdate(t *testing.T, l []impl.Act, n int, v []bool, a impl.Act) {
	t.Helper()
	checkUpdate(t, l, n, v, a, updated{})
}

// checkPlain asks everything of l, v and a, and the plain functions what to expect.
func checkPlain(t *testing.T, l []impl.Act, n int, v []bool, a impl.Act) {
	t.Helper()
	checkCounts(t, l, n, plainVerdicts(l, n)...)
	checkTouched(t, l, n, a, plainTouched(l, n, a)...)
	acts, flags, ok := plainUpdate(l, n, v, a)
	checkUpdate(t, l, n, v, a, updated{acts, flags, ok})
}

// nextOf gives what a place writes that knows all of l.
func nextOf(l []impl.Act, n, place int, a impl.Act) impl.Act {
	a.R, a.Dep = place, countsOf(l, n)
	a.N = a.Dep[place] + 1
	return a
}

// nextAlone gives what a place writes that has heard of nothing since it wrote last.
func nextAlone(l []impl.Act, n, place int, a impl.Act) impl.Act {
	a.R, a.N, a.Dep = place, 1, make([]int, n)
	if k := plainFind(l, place, plainCount(l, place)); k >= 0 {
		a.N, a.Dep = l[k].N+1, slices.Clone(l[k].Dep)
		a.Dep[place]++
	}
	return a
}

// TestCountsByMask: what a transaction needs must be in the rights of its actor.
func TestCountsByMask(t *testing.T) {
	set, plus, ins, rem := up(impl.UpSet, 1), up(impl.UpAdd, 1), up(impl.UpIns, 1), up(impl.UpRem, 1)
	for _, c := range []struct {
		ups   []impl.Up
		needs int
	}{
		{nil, 0}, {[]impl.Up{}, 0},
		{[]impl.Up{set}, write}, {[]impl.Up{ins}, write}, {[]impl.Up{rem}, write}, {[]impl.Up{plus}, add},
		{[]impl.Up{set, ins, rem, set, ins}, write}, {[]impl.Up{plus, plus, plus, plus, plus}, add},
		{[]impl.Up{set, plus}, write + add}, {[]impl.Up{plus, set}, write + add},
		{[]impl.Up{ins, plus}, write + add}, {[]impl.Up{plus, rem}, write + add},
		{[]impl.Up{plus, plus, plus, plus, rem}, write + add},
	} {
		for mask := range 16 {
			l := writeAll(gives(0, 1, 1, mask), does(1, c.ups...), does(0, c.ups...), does(2, c.ups...))
			checkCounts(t, l, 1, true, mask&c.needs == c.needs, true, c.needs == 0)
			// a ceiling leaves as much as a grant of less gives
			l = writeAll(gives(0, 1, 1, allRights), limits(0, 1, mask), does(1, c.ups...), does(0, c.ups...))
			checkCounts(t, l, 1, true, true, mask&c.needs == c.needs, true)
		}
		// rights of several grants are taken together
		l := writeAll(gives(0, 1, 1, write), gives(0, 1, 1, add), does(1, c.ups...))
		checkCounts(t, l, 1, true, true, true)
	}
}

func TestCountsByBuckets(t *testing.T) {
	rights := []impl.Act{gives(0, 1, 0, write), gives(0, 1, 1, add), gives(0, 1, 2, write+add)}
	for _, c := range []struct {
		ups  []impl.Up
		want bool
	}{
		{[]impl.Up{up(impl.UpSet, 0)}, true}, {[]impl.Up{up(impl.UpSet, 1)}, false}, {[]impl.Up{up(impl.UpSet, 2)}, true},
		{[]impl.Up{up(impl.UpAdd, 0)}, false}, {[]impl.Up{up(impl.UpAdd, 1)}, true}, {[]impl.Up{up(impl.UpAdd, 2)}, true},
		{[]impl.Up{up(impl.UpIns, 0), up(impl.UpAdd, 1)}, true},
		{[]impl.Up{up(impl.UpAdd, 1), up(impl.UpRem, 0)}, true},
		{[]impl.Up{up(impl.UpAdd, 0), up(impl.UpSet, 1)}, false},
		{[]impl.Up{up(impl.UpSet, 0), up(impl.UpAdd, 1), up(impl.UpSet, 2), up(impl.UpAdd, 2)}, true},
		// a right that is lacking in one bucket is not had in another one
		{[]impl.Up{up(impl.UpAdd, 0), up(impl.UpAdd, 1), up(impl.UpSet, 2), up(impl.UpAdd, 2)}, false},
		{[]impl.Up{up(impl.UpSet, 0), up(impl.UpRem, 1), up(impl.UpSet, 2), up(impl.UpAdd, 2)}, false},
		{[]impl.Up{up(impl.UpSet, 0), up(impl.UpAdd, 1), up(impl.UpAdd, 1), up(impl.UpIns, 1)}, false},
	} {
		l := writeAll(append(slices.Clone(rights), does(1, c.ups...), does(0, c.ups...), does(3, c.ups...))...)
		checkCounts(t, l, 1, true, true, true, c.want, true, false)
		// with the last bucket taken away, what needs it does not count
		limited := append(slices.Clone(rights), limits(0, 2, read), does(1, c.ups...))
		needsLast := slices.ContainsFunc(c.ups, func(u impl.Up) bool { return u.Bucket == 2 })
		checkCounts(t, writeAll(limited...), 1, true, true, true, true, c.want && !needsLast)
	}
}

// TestCountsOverHands: rights may come over several hands, and are those that
// there were when the transaction was written.
func TestCountsOverHands(t *testing.T) {
	l := writeAll(
		does(1, up(impl.UpSet, 0)), // no grant is there yet
		does(1),                    // this needs none
		gives(0, 1, 0, allRights),
		does(1, up(impl.UpSet, 0), up(impl.UpAdd, 0)),
		gives(1, 2, 0, write+hand),
		gives(2, 3, 0, write),
		does(2, up(impl.UpIns, 0)),
		does(3, up(impl.UpRem, 0)),
		does(3, up(impl.UpAdd, 0)), // that was not handed on
		gives(3, 4, 0, write),      // 3 may not hand on
		does(4, up(impl.UpSet, 0)),
		takesNumber(1, 5), // what 2 has
		does(3, up(impl.UpSet, 0)),
		does(2, up(impl.UpSet, 0)),
		does(2),
		does(1, up(impl.UpSet, 0)),
		limits(0, 0, add),
		does(1, up(impl.UpSet, 0)),
		does(1, up(impl.UpAdd, 0)),
		does(0, up(impl.UpSet, 0)), // no ceiling is over the keeper
		gives(0, 3, 0, write),
		does(3, up(impl.UpSet, 0)), // but it is over a new grant, too
		limits(0, 0, write),
		does(3, up(impl.UpSet, 0)),
	)
	want := []bool{
		false, true, true, true, true, true, true, true, false, true, false,
		true, false, false, true, true,
		true, false, true, true, true, false, true, true,
	}
	checkCounts(t, l, 1, want...)
	for count := range len(l) {
		checkCounts(t, l[:count], 1, want[:count]...)
	}
}

// TestOtherKindsCount: an act that is no transaction counts, whoever wrote it,
// and whether anything comes of it.
func TestOtherKindsCount(t *testing.T) {
	l := writeAll(gives(5, 1, 0, 15), limits(4, 0, 0), takesNumber(3, 1), takesNumber(0, 2), gives(1, 2, 2, 7), limits(0, 0, 0), gives(0, 1, 0, 15))
	checkCounts(t, l, 1, true, true, true, true, true, true, true)
	for n := 1; n <= impl.MaxPlaces; n++ {
		checkCounts(t, nil, n)
		checkCounts(t, []impl.Act{}, n)
		for place := range n {
			first := make([]int, n)
			for _, a := range []impl.Act{gives(3, 1, 0, 15), limits(2, 0, 3), does(0), does(5), does(0, up(impl.UpAdd, 2)), does(5, up(impl.UpAdd, 2))} {
				a.R, a.N, a.Dep = place, 1, first
				want := a.Actor != 5 || len(a.Ups) == 0
				checkCounts(t, []impl.Act{a}, n, want)
				checkTouched(t, nil, n, a)
				checkUpdate(t, nil, n, nil, a, updated{[]impl.Act{a}, []bool{want}, true})
				checkUpdate(t, []impl.Act{}, n, []bool{}, a, updated{[]impl.Act{a}, []bool{want}, true})
			}
		}
	}
}

// besides is a story in which a right is used at several places: by what the
// keeper's place knows of, and by what it does not.
type besides struct {
	given, known, beside, far impl.Act
	d                         *diary
}

func newBesides() besides {
	b := besides{d: newDiary(3)}
	b.given = b.d.write(0, gives(0, 1, 0, read+write))
	b.d.hear(1, 0)
	b.d.hear(2, 0)
	b.known = b.d.write(1, sets(1))
	b.d.hear(0, 1)
	b.beside = b.d.write(1, sets(1))
	b.far = b.d.write(2, sets(1))
	return b
}

// TestUpdateHides: a right is taken back, or a ceiling set, while it is used
// elsewhere. What was known then stays, and what was written without knowing is
// hidden; so is what is written with that known.
func TestUpdateHides(t *testing.T) {
	for _, c := range []struct {
		act   impl.Act
		hides bool
	}{
		{takesNumber(0, 1), true},
		{takesNumber(1, 1), false}, // the grant is not theirs
		{limits(0, 0, read), true}, {limits(0, 0, 0), true}, {limits(0, 0, allRights-write), true},
		{limits(0, 0, write), false}, {limits(0, 0, allRights), false},
		{limits(0, 1, read), false}, // of another bucket
		{limits(1, 0, read), false}, // not the keeper's
		{gives(0, 1, 0, read), false},
		{does(0, up(impl.UpSet, 0)), false},
	} {
		b := newBesides()
		before := b.d.list()
		put := b.d.write(0, c.act)
		now := b.d.list()
		b.d.hear(1, 0)
		after := b.d.write(1, sets(1))
		all := b.d.list()
		hidden, more := []impl.Act{}, []impl.Act{}
		if c.hides {
			hidden = []impl.Act{b.beside, b.far}
			more = append(slices.Clone(hidden), after)
		}
		checkCounts(t, before, 3, allBut(before)...)
		checkCounts(t, now, 3, allBut(now, hidden...)...)
		checkCounts(t, all, 3, allBut(all, more...)...)
		at := func(a impl.Act) int { return plainFind(before, a.R, a.N) }
		touched := []int{at(b.beside), at(b.far)}
		slices.Sort(touched)
		checkTouched(t, before, 3, put, touched...)
		checkUpdate(t, before, 3, allBut(before), put, updated{now, allBut(now, hidden...), true})
		checkUpdate(t, now, 3, allBut(now, hidden...), after, updated{all, allBut(all, more...), true})
	}
}

// TestUpdateAtEachPlace puts acts in ahead of others, between them and behind them.
func TestUpdateAtEachPlace(t *testing.T) {
	d := newDiary(3)
	d.write(1, gives(0, 1, 0, write))
	b2, b3 := d.write(1, sets(1)), d.write(1, sets(1))
	l := d.list()
	for _, c := range []struct {
		place, known, at int
		hidden           []impl.Act
	}{
		{0, 0, 0, []impl.Act{b2, b3}}, {2, 0, 1, []impl.Act{b2, b3}},
		{0, 1, 1, []impl.Act{b2, b3}}, {2, 1, 2, []impl.Act{b2, b3}},
		{0, 2, 2, []impl.Act{b3}}, {2, 2, 3, []impl.Act{b3}},
		{0, 3, 3, nil}, {2, 3, 3, nil},
	} {
		put := func(a impl.Act) (impl.Act, []impl.Act) {
			a.R, a.N, a.Dep = c.place, 1, []int{0, c.known, 0}
			return a, slices.Insert(slices.Clone(l), c.at, a)
		}
		touched := []int{0, 1, 2}[c.known:]
		hiding, more := put(limits(0, 0, add))
		checkTouched(t, l, 3, hiding, touched...)
		checkUpdate(t, l, 3, allBut(l), hiding, updated{more, allBut(more, c.hidden...), true})
		checkCounts(t, more, 3, allBut(more, c.hidden...)...)
		// what is put in does not count itself, if the grant was not known there
		using, more := put(sets(1))
		checkTouched(t, l, 3, using, touched...)
		want := allBut(more)
		want[c.at] = c.known > 0
		checkUpdate(t, l, 3, allBut(l), using, updated{more, want, true})
		idle, more := put(gives(0, 3, 0, 15))
		checkUpdate(t, l, 3, allBut(l), idle, updated{more, allBut(more), true})
	}
}

// TestUpdateOfOldFlags: flags of acts that are not Touched stay as v has them,
// whatever Counts says; the others are found anew, whatever v has.
func TestUpdateOfOldFlags(t *testing.T) {
	d := newDiary(2)
	d.write(0, gives(0, 1, 0, write))
	d.hear(1, 0)
	d.write(0, sets(1))
	d.write(0, sets(2)) // does not count
	d.write(1, sets(1))
	d.write(1, sets(2)) // does not count
	l := d.list()
	counts := []bool{true, true, true, false, false}
	checkCounts(t, l, 2, counts...)
	for _, dep := range [][]int{{3, 0}, {1, 2}, {3, 2}, {0, 0}, {2, 1}, {2, 0}} {
		for _, a := range []impl.Act{limits(0, 0, read), sets(1), sets(0), takesNumber(0, 1)} {
			a.Dep, a.N = dep, dep[0]+1
			if a.R = 0; dep[0] < 3 {
				a.R, a.N = 1, dep[1]+1
			}
			for set := range 32 {
				var v []bool
				for k := range l {
					v = append(v, set>>k&1 == 1)
				}
				checkPlain(t, l, 2, v, a)
			}
		}
	}
	behind := nextOf(l, 2, 1, sets(2))
	wrong := []bool{false, false, true, true, false}
	more := append(slices.Clone(l), behind)
	checkUpdate(t, l, 2, wrong, behind, updated{more, append(slices.Clone(wrong), false), true})
	beside := impl.Act{R: 0, N: 4, Dep: []int{3, 0}, Actor: 1, Kind: impl.KdTxn}
	ahead := updated{slices.Insert(slices.Clone(l), 5, beside), []bool{false, false, true, true, false, true}, true}
	checkUpdate(t, l, 2, wrong, beside, ahead)
}

func TestTouchedByHand(t *testing.T) {
	d := newDiary(3)
	first := d.write(0, gives(0, 1, 0, allRights))
	d.hear(1, 0)
	d.hear(2, 0)
	b1, c1 := d.write(1, sets(1)), d.write(2, sets(1))
	a2 := d.write(0, sets(1))
	d.hear(0, 1)
	d.hear(0, 2)
	last := d.write(0, sets(1))
	l := d.list()
	for k, a := range []impl.Act{first, a2, b1, c1, last} {
		if !impl.SameAct(l[k], a) {
			t.Fatal("not in this order", l)
		}
	}
	// no act knows itself
	checkTouched(t, l, 3, first, 0)
	checkTouched(t, l, 3, a2, 1, 2, 3)
	checkTouched(t, l, 3, b1, 1, 2, 3)
	checkTouched(t, l, 3, c1, 1, 2, 3)
	checkTouched(t, l, 3, last, 4)
	// one that knows all, one that knows nothing, and one beside all
	checkTouched(t, l, 3, nextOf(l, 3, 1, sets(1)))
	checkTouched(t, l, 3, impl.Act{R: 1, N: 2, Dep: []int{0, 0, 0}}, 0, 1, 2, 3, 4)
	checkTouched(t, l, 3, impl.Act{R: 1, N: 1, Dep: []int{0, 0, 0}}, 0, 1, 2, 3)
	checkTouched(t, l, 3, impl.Act{R: 2, N: 1, Dep: []int{3, 0, 0}}, 2, 3)
	checkTouched(t, l, 3, act(1, 2, 0, 1, 0), 0, 1, 3, 4)
	// it goes by what is known alone, and asks not whether the act is good
	for _, a := range []impl.Act{
		{}, {R: -1, N: 1}, {R: 3, N: 1}, {R: 1, N: 0}, {R: 0, N: -1}, {R: math.MinInt, N: math.MaxInt},
		{R: math.MaxInt, N: math.MinInt, Dep: []int{math.MinInt, math.MaxInt, -1}},
		{Dep: []int{1}}, {Dep: []int{0, 1}}, {Dep: []int{3, 1, 1, 9, 9, 9, 9}}, {Dep: []int{top + 1, 0, 0}},
		{R: 0, N: 1, Dep: []int{3}, Kind: 99, Actor: -5}, {R: 2, N: 1, Dep: []int{}},
	} {
		checkTouched(t, l, 3, a, plainTouched(l, 3, a)...)
	}
	checkTouched(t, l, 3, impl.Act{Dep: []int{1}}, 1, 2, 3, 4)
	checkTouched(t, l, 3, impl.Act{R: 1, N: 1}, 0, 1, 2, 3)
	checkTouched(t, l, 3, impl.Act{R: 3, N: 1, Dep: []int{0, 1, 0}}, 0, 1, 3, 4)
	checkTouched(t, l, 3, impl.Act{}, 0, 1, 2, 3, 4)
}

func TestUpdateRefuses(t *testing.T) {
	b := newBesides()
	l := b.d.list()
	good := nextOf(l, 3, 0, takesNumber(0, 1))
	flags := allBut(l)
	more := append(slices.Clone(l), good)
	checkUpdate(t, l, 3, flags, good, updated{more, append(slices.Clone(flags), true), true})
	for _, v := range [][]bool{nil, {}, {true}, flags[1:], flags[:3], append(slices.Clone(flags), true), make([]bool, 61)} {
		checkNoUpdate(t, l, 3, v, good)
	}
	checkNoUpdate(t, nil, 3, []bool{true}, act(0, 1, 0, 0, 0))
	checkUpdate(t, nil, 3, nil, act(0, 1, 0, 0, 0), updated{[]impl.Act{act(0, 1, 0, 0, 0)}, []bool{true}, true})
	// what is there already, the same or another one
	for _, a := range l {
		checkNoUpdate(t, l, 3, flags, a)
		a.Actor = 3
		checkNoUpdate(t, l, 3, flags, a)
	}
	for _, a := range []impl.Act{
		act(0, 3, 2, 0, 0), act(0, 2, 1, 3, 0), act(0, 2, 1, 0, 2), act(2, 2, 2, 0, 1), // knows what is not there
		act(0, 2, 1, 2), act(0, 2, 1, 2, 1, 0), act(3, 1, 0, 0, 0), {}, // not for 3 places
		act(0, 2, 0, 2, 0),                                     // not all that these knew
		{R: 0, N: 2, Dep: []int{1, 2, 1}, Kind: 5},             // of no kind
		{R: 0, N: 2, Dep: []int{1, 2, 1}},                      // of no kind
		{R: 0, N: 2, Dep: []int{1, 2, 1}, Kind: impl.KdRevoke}, // takes back nothing
		nextOf(l, 3, 1, gives(0, impl.Actors, 0, 0)), nextOf(l, 3, 1, gives(-1, 1, 0, 0)), nextOf(l, 3, 1, limits(0, 3, 0)),
		nextOf(l, 3, 1, does(0, up(0, 0))), nextOf(l, 3, 1, does(0, up(impl.UpSet, 3))), nextOf(l, 3, 1, does(0, make([]impl.Up, 6)...)),
	} {
		checkNoUpdate(t, l, 3, flags, a)
	}
	for _, a := range changes(good) {
		checkPlain(t, l, 3, flags, a)
	}
}

// checkNothing asks everything of a list that is no set.
func checkNothing(t *testing.T, l []impl.Act, n int, acts ...impl.Act) {
	t.Helper()
	checkCounts(t, l, n)
	for _, a := range append(acts, impl.Act{}, act(0, 1, make([]int, max(0, min(n, 9)))...)) {
		checkTouched(t, l, n, a)
		checkNoUpdate(t, l, n, make([]bool, len(l)), a)
		checkNoUpdate(t, l, n, nil, a)
	}
}

func TestVerdictsOfNoSet(t *testing.T) {
	b := newBesides()
	b.d.hear(0, 2)
	b.d.write(0, sets(0))
	l := b.d.list()
	next := nextOf(l, 3, 1, sets(1))
	for _, n := range []int{math.MinInt, -1, 0, 1, 2, 4, 5, math.MaxInt} {
		checkNothing(t, l, n, next)
	}
	for _, n := range []int{math.MinInt, -1, 0, 5, math.MaxInt} {
		checkNothing(t, nil, n, act(0, 1))
		checkNothing(t, []impl.Act{}, n, act(0, 1))
	}
	refused := 0
	for _, m := range spoiled(l) {
		if plainSetOk(m, 3) {
			checkPlain(t, m, 3, make([]bool, len(m)), next)
			continue
		}
		refused++
		checkNothing(t, m, 3, next)
	}
	if refused < 50 {
		t.Fatal("this says little", refused)
	}
	// one that is missing does not make a set of what was none
	for k, a := range l {
		m := slices.Delete(slices.Clone(l), k, k+1)
		if !plainSetOk(m, 3) {
			checkNothing(t, m, 3, a)
		}
	}
}

func TestUpdateOfMaxActs(t *testing.T) {
	acts := []impl.Act{gives(0, 1, 0, write)}
	for len(acts) <= impl.MaxActs {
		acts = append(acts, sets(1+len(acts)%2))
	}
	full := writeAll(acts[:impl.MaxActs]...)
	var want []bool
	for k := range full {
		want = append(want, k%2 == 0)
	}
	last := impl.MaxActs - 1
	checkCounts(t, full, 1, want...)
	checkTouched(t, full, 1, full[last], last)
	checkUpdate(t, full[:last], 1, want[:last], full[last], updated{full, want, true})
	more := writeAll(acts...)
	checkTouched(t, full, 1, more[impl.MaxActs])
	checkNoUpdate(t, full, 1, want, more[impl.MaxActs])
	checkNothing(t, more, 1, full[last])
	checkNoUpdate(t, more, 1, append(slices.Clone(want), true), nextOf(more, 1, 0, sets(1)))

	// one beside all: only the last place there is hides nearly all of it
	d := newDiary(2)
	for _, a := range acts[:last] {
		d.write(0, a)
	}
	l := d.list()
	beside := d.write(1, limits(0, 0, read))
	all := make([]int, 0, last)
	for k := range l {
		all = append(all, k)
	}
	hidden := make([]bool, impl.MaxActs)
	hidden[0], hidden[1] = true, true
	checkTouched(t, l, 2, beside, all...)
	checkUpdate(t, l, 2, want[:last], beside, updated{d.list(), hidden, true})
	checkNoUpdate(t, d.list(), 2, hidden, nextOf(d.list(), 2, 0, sets(0)))
}

// TestVerdictsInTime: each of many transactions may rest on each of many grants.
func TestVerdictsInTime(t *testing.T) {
	acts := []impl.Act{gives(0, 1, 0, allRights), gives(0, 1, 1, allRights), gives(0, 1, 2, allRights)}
	for len(acts) < impl.MaxActs/2 {
		acts = append(acts, gives(1, 1, len(acts)%3, allRights))
	}
	for len(acts) < impl.MaxActs {
		acts = append(acts, does(1+len(acts)%2, up(impl.UpSet, 0), up(impl.UpAdd, 0), up(impl.UpIns, 1), up(impl.UpAdd, 2)))
	}
	l := writeAll(acts...)
	inTime(t, func() {
		var want []bool
		for _, a := range l {
			want = append(want, a.Actor < 2)
		}
		checkCounts(t, l, 1, want...)
	})
}

// randomStory gives what places wrote that met now and then: rights that all know
// at first, and then transactions of those who have them or not, while others
// take them back, limit them or hand them on.
func randomStory(rnd *rand.Rand, places, count int) []impl.Act {
	d := newDiary(places)
	for k := range min(4, count) {
		d.write(0, gives(0, 1+k%3, k/3, write|add|rnd.IntN(16)))
	}
	for place := range places {
		d.hear(place, 0)
	}
	for len(d.acts) < count {
		place := rnd.IntN(places)
		if rnd.IntN(4) == 0 {
			d.hear(place, rnd.IntN(places))
		}
		d.write(place, d.randomAct(rnd, place))
	}
	return d.list()
}

// randomAct gives what a place may write, knowing what it knows.
func (d *diary) randomAct(rnd *rand.Rand, place int) impl.Act {
	giver := max(0, rnd.IntN(5)-2)  // most often the keeper
	bucket := max(0, rnd.IntN(8)-5) // most often one and the same
	switch kind := rnd.IntN(20); {
	case kind < 3:
		return gives(giver, 1+rnd.IntN(3), bucket, rnd.IntN(16)|rnd.IntN(16)|[]int{0, hand}[rnd.IntN(2)])
	case kind < 5:
		return limits(rnd.IntN(5)/4, bucket, rnd.IntN(16))
	case kind < 9:
		if g := d.acts[rnd.IntN(len(d.acts))]; g.N <= d.known[place][g.R] {
			return takes(g.Actor*rnd.IntN(2), g)
		}
	}
	var ups []impl.Up
	for range min(2, rnd.IntN(6)) {
		ups = append(ups, impl.Up{Kind: 1 + rnd.IntN(4), Bucket: max(0, rnd.IntN(8)-5), Key: rnd.IntN(4), Val: rnd.IntN(9) - 4})
	}
	return does(max(rnd.IntN(4), rnd.IntN(4)), ups...)
}

// lastOnes gives the numbers of the acts that no act of l knows.
func lastOnes(l []impl.Act) []int {
	var numbers []int
	for k, a := range l {
		if !slices.ContainsFunc(l, func(b impl.Act) bool { return plainKnows(b, a) }) {
			numbers = append(numbers, k)
		}
	}
	return numbers
}

func TestVerdictsAgainstThePlainOnes(t *testing.T) {
	rnd := rand.New(rand.NewPCG(5, 23))
	counting, changed := map[bool]int{}, 0
	for turn := range 150 {
		n := 1 + turn%impl.MaxPlaces
		l := randomStory(rnd, n, 3+turn%30)
		v := plainVerdicts(l, n)
		for k, a := range l {
			if a.Kind == impl.KdTxn {
				counting[v[k]]++
			}
		}
		randomFlags := make([]bool, len(l))
		for k := range randomFlags {
			randomFlags[k] = rnd.IntN(2) == 0
		}
		limit := nextAlone(l, n, rnd.IntN(n), limits(0, 0, rnd.IntN(4)))
		more, flags, _ := plainUpdate(l, n, v, limit)
		at := plainFind(more, limit.R, limit.N)
		if !slices.Equal(slices.Delete(flags, at, at+1), v) {
			changed++
		}
		bad := changes(limit)
		for _, a := range []impl.Act{
			limit, bad[rnd.IntN(len(bad))], nextOf(l, n, rnd.IntN(n), does(1, up(impl.UpAdd, 0))),
			nextAlone(l, n, rnd.IntN(n), takesNumber(0, 1)), nextAlone(l, n, rnd.IntN(n), sets(2)),
		} {
			checkPlain(t, l, n, v, a)
			checkPlain(t, l, n, randomFlags, a)
		}
		checkLastOnes(t, rnd, l, n)
	}
	if counting[true] < 300 || counting[false] < 300 || changed < 30 {
		t.Fatal("this says little", counting, changed)
	}
}

// checkLastOnes takes out what no act of l knows, and puts it in once more.
func checkLastOnes(t *testing.T, rnd *rand.Rand, l []impl.Act, n int) {
	t.Helper()
	for _, k := range lastOnes(l) {
		less, bad := slices.Delete(slices.Clone(l), k, k+1), changes(l[k])
		v := plainVerdicts(less, n)
		checkPlain(t, less, n, v, l[k])
		checkPlain(t, less, n, v, bad[rnd.IntN(len(bad))])
	}
}

// TestCountsByRights: a transaction counts if Rights have all that it Needs.
func TestCountsByRights(t *testing.T) {
	rnd := rand.New(rand.NewPCG(5, 4))
	for turn := range 40 {
		n := 1 + turn%impl.MaxPlaces
		l := randomStory(rnd, n, 20)
		for k, a := range l {
			want := true
			for bucket := range impl.Buckets {
				needs := impl.Needs(a, bucket)
				want = want && needs == needs&impl.Rights(l, n, a.Actor, bucket, impl.EyeOf(a))
			}
			if impl.Counts(l, n, k) != want {
				t.Fatal(l, k)
			}
		}
	}
}

// hearing gives l in another order, in which it may have come to a place: what
// an act knows has come ahead of it.
func hearing(rnd *rand.Rand, l []impl.Act) []impl.Act {
	rest := slices.Clone(l)
	var heard []impl.Act
	for len(rest) > 0 {
		k := rnd.IntN(len(rest))
		if !slices.ContainsFunc(rest, func(b impl.Act) bool { return plainKnows(rest[k], b) }) {
			heard = append(heard, rest[k])
			rest = slices.Delete(rest, k, k+1)
		}
	}
	return heard
}

// TestPromise5: looking at what may have changed alone, act by act, tells the
// same as looking at all; and what a later act knows is judged as before.
func TestPromise5(t *testing.T) {
	rnd := rand.New(rand.NewPCG(5, 1))
	changed, stays := 0, 0
	for turn := range 300 {
		n := 1 + turn%impl.MaxPlaces
		story := randomStory(rnd, n, 5+turn%35)
		var l []impl.Act
		var v []bool
		for _, a := range hearing(rnd, story) {
			more, flags, ok := impl.Update(l, n, v, a)
			if !ok || !slices.Equal(flags, impl.Verdicts(more, n)) {
				t.Fatal("not the same", ok, more, flags)
			}
			for k, b := range l {
				now := flags[plainFind(more, b.R, b.N)]
				switch {
				case now == v[k]:
					stays++
				case plainKnows(a, b) || !slices.Contains(impl.Touched(l, n, a), k):
					t.Fatal("judged in another way", l, a, b)
				default:
					changed++
				}
			}
			l, v = more, flags
		}
		if !sameActs(l, story) || !slices.Equal(v, impl.Verdicts(story, n)) {
			t.Fatal("the order tells", l, story)
		}
	}
	if changed < 150 || stays < 5000 {
		t.Fatal("this says little", changed, stays)
	}
}

// TestPromise5Later: whatever is written with all of l known, by anybody, l is
// judged as before.
func TestPromise5Later(t *testing.T) {
	rnd := rand.New(rand.NewPCG(5, 2))
	for turn := range 40 {
		n := 1 + turn%impl.MaxPlaces
		l := randomStory(rnd, n, 20)
		before := impl.Verdicts(l, n)
		for k, g := range l {
			for _, a := range []impl.Act{takes(0, g), takes(g.Actor, g), limits(0, k%3, 0), gives(0, 1, 0, allRights)} {
				a = nextOf(l, n, k%n, a)
				more, flags, ok := impl.Update(l, n, before, a)
				after := impl.Verdicts(more, n)
				if !ok || len(impl.Touched(l, n, a)) > 0 || !slices.Equal(flags, after) ||
					!slices.Equal(after, append(slices.Clone(before), true)) {
					t.Fatal("judged in another way", l, a)
				}
			}
		}
	}
}
