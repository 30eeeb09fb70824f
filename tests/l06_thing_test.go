package tests

import (
	"math"
	"math/rand/v2"
	"slices"
	"testing"

	"loop.example/g00717/impl"
)

// These are ups of bucket 0 and key 0.
func toSet(val int) impl.Up { return impl.Up{Kind: impl.UpSet, Val: val} }
func toAdd(val int) impl.Up { return impl.Up{Kind: impl.UpAdd, Val: val} }
func toIns(val int) impl.Up { return impl.Up{Kind: impl.UpIns, Val: val} }
func toRem(val int) impl.Up { return impl.Up{Kind: impl.UpRem, Val: val} }

// at gives the up for another thing.
func at(bucket, key int, u impl.Up) impl.Up {
	u.Bucket, u.Key = bucket, key
	return u
}

// told is what the thing of bucket 0 and key 0 tells; toldNoReg is it of one
// whose register was never set.
func told(reg, count int, items ...int) impl.Thing {
	return impl.Thing{Has: true, Reg: reg, Count: count, Items: items}
}

func toldNoReg(count int, items ...int) impl.Thing {
	return impl.Thing{Count: count, Items: items}
}

// thingAt gives the thing for another bucket and key.
func thingAt(bucket, key int, x impl.Thing) impl.Thing {
	x.Bucket, x.Key = bucket, key
	return x
}

// allThings gives the twelve things in their order: those that are named, and
// empty ones.
func allThings(named ...impl.Thing) []impl.Thing {
	var all []impl.Thing
	for bucket := range 3 {
		for key := range 4 {
			x := impl.Thing{Bucket: bucket, Key: key}
			for _, other := range named {
				if other.Bucket == bucket && other.Key == key {
					x = other
				}
			}
			all = append(all, x)
		}
	}
	return all
}

// plainUp is an up, and where it stands: the number of its act and its own.
type plainUp struct {
	impl.Up
	act, place int
}

// plainUps gives the ups of a thing.
func plainUps(l []impl.Act, bucket, key int) []plainUp {
	var ups []plainUp
	for k, a := range l {
		if a.Kind != 4 || !plainCounts(l, k) {
			continue
		}
		for i, u := range a.Ups {
			if u.Bucket == bucket && u.Key == key {
				ups = append(ups, plainUp{u, k, i})
			}
		}
	}
	return ups
}

// plainGone says of a putting whether any up takes its element away, wherever
// that up stands.
func plainGone(l []impl.Act, ups []plainUp, put plainUp) bool {
	return slices.ContainsFunc(ups, func(u plainUp) bool {
		behind := u.act == put.act && u.place > put.place
		return u.Kind == 4 && u.Val == put.Val && (plainKnows(l[u.act], l[put.act]) || behind)
	})
}

// plainThing says once more what the document asks of a thing of a good set.
func plainThing(l []impl.Act, bucket, key int) impl.Thing {
	x := impl.Thing{Bucket: bucket, Key: key}
	ups := plainUps(l, bucket, key)
	for _, u := range ups {
		switch {
		case u.Kind == 1:
			x.Has, x.Reg = true, u.Val
		case u.Kind == 2:
			x.Count += u.Val
		case u.Kind == 3 && !slices.Contains(x.Items, u.Val) && !plainGone(l, ups, u):
			x.Items = append(x.Items, u.Val)
		}
	}
	slices.Sort(x.Items)
	return x
}

func plainThings(l []impl.Act, n int) []impl.Thing {
	if !plainSetOk(l, n) {
		return nil
	}
	var things []impl.Thing
	for bucket := range 3 {
		for key := range 4 {
			things = append(things, plainThing(l, bucket, key))
		}
	}
	return things
}

// plainSameThing holds the fields against each other one by one.
func plainSameThing(a, b impl.Thing) bool {
	if a.Bucket != b.Bucket || a.Key != b.Key || a.Has != b.Has || a.Reg != b.Reg || a.Count != b.Count || len(a.Items) != len(b.Items) {
		return false
	}
	for i := range a.Items {
		if a.Items[i] != b.Items[i] {
			return false
		}
	}
	return true
}

func copyThings(l []impl.Thing) []impl.Thing {
	l = slices.Clone(l)
	for i := range l {
		l[i].Items = slices.Clone(l[i].Items)
	}
	return l
}

// checkThingList asks twice for all things, and overwrites what comes back first.
func checkThingList(t *testing.T, want []impl.Thing, give func() []impl.Thing) {
	t.Helper()
	same := func(got []impl.Thing) bool { return slices.EqualFunc(got, want, plainSameThing) }
	first, second := give(), give()
	if !same(first) {
		t.Fatalf("Things: %+v, not %+v", first, want)
	}
	overwriteThings(t, first)
	if !same(second) || !same(give()) {
		t.Fatal("answers of Things share memory, or one is kept")
	}
}

// checkOne asks RegAt, CountAt and ItemsAt of one thing.
func checkOne(t *testing.T, l []impl.Act, n, bucket, key int, want impl.Thing) {
	t.Helper()
	if reg, has := impl.RegAt(l, n, bucket, key); reg != want.Reg || has != want.Has {
		t.Fatalf("RegAt(%+v, %d, %d, %d): %d, %v, not %d, %v", l, n, bucket, key, reg, has, want.Reg, want.Has)
	}
	if count := impl.CountAt(l, n, bucket, key); count != want.Count {
		t.Fatalf("CountAt(%+v, %d, %d, %d): %d, not %d", l, n, bucket, key, count, want.Count)
	}
	change := func(val int) int { return -val - 77 }
	checkList(t, "ItemsAt", want.Items, change, func() []int { return impl.ItemsAt(l, n, bucket, key) })
}

// checkThings asks everything of l: of each thing of want, and of buckets and
// keys that are not there.
func checkThings(t *testing.T, l []impl.Act, n int, want []impl.Thing) {
	t.Helper()
	g := guardActs(l)
	for _, x := range want {
		checkOne(t, g.list, n, x.Bucket, x.Key, x)
	}
	for _, wrong := range []int{-1, impl.Buckets, impl.Keys} {
		checkOne(t, g.list, n, wrong, 0, impl.Thing{})
		if wrong != impl.Buckets {
			checkOne(t, g.list, n, 0, wrong, impl.Thing{})
		}
	}
	checkThingList(t, want, func() []impl.Thing { return impl.Things(g.list, n) })
	g.check(t, "RegAt, CountAt, ItemsAt, Things")
}

// checkTold checks all twelve things: those that are named, and that the others
// are empty.
func checkTold(t *testing.T, l []impl.Act, n int, named ...impl.Thing) {
	t.Helper()
	checkThings(t, l, n, allThings(named...))
}

// checkNoThings asks everything of a list that is no set.
func checkNoThings(t *testing.T, l []impl.Act, n int) {
	t.Helper()
	g := guardActs(l)
	for bucket := -1; bucket <= impl.Buckets; bucket++ {
		for key := -1; key <= impl.Keys; key++ {
			checkOne(t, g.list, n, bucket, key, impl.Thing{})
		}
	}
	checkThingList(t, nil, func() []impl.Thing { return impl.Things(g.list, n) })
	g.check(t, "RegAt, CountAt, ItemsAt, Things")
}

func TestThingsOfOnePlace(t *testing.T) {
	for _, c := range []struct {
		what string
		acts []impl.Act
		want impl.Thing
	}{
		{"nothing", nil, toldNoReg(0)},
		{"transactions of no ups", []impl.Act{does(0), does(0)}, toldNoReg(0)},
		{"acts of other kinds", []impl.Act{gives(0, 1, 0, 15), limits(0, 0, 7), takesNumber(0, 1)}, toldNoReg(0)},

		{"set once", []impl.Act{does(0, toSet(7))}, told(7, 0)},
		{"set to 0", []impl.Act{does(0, toSet(0))}, told(0, 0)},
		{"set to 0 at last", []impl.Act{does(0, toSet(7)), does(0, toSet(0))}, told(0, 0)},
		{"set twice in one", []impl.Act{does(0, toSet(9), toSet(-4))}, told(-4, 0)},
		{"set twice, the greater first", []impl.Act{does(0, toSet(9)), does(0, toSet(3))}, told(3, 0)},
		{"set twice, the lesser first", []impl.Act{does(0, toSet(3)), does(0, toSet(9))}, told(9, 0)},
		{"set and set back", []impl.Act{does(0, toSet(3)), does(0, toSet(9)), does(0, toSet(3))}, told(3, 0)},
		{"set and nothing more", []impl.Act{does(0, toSet(3)), does(0), does(0, toAdd(1), toIns(2), toRem(3))}, told(3, 1, 2)},
		{"the least", []impl.Act{does(0, toSet(1)), does(0, toSet(math.MinInt))}, told(math.MinInt, 0)},
		{"the greatest", []impl.Act{does(0, toSet(1)), does(0, toSet(math.MaxInt))}, told(math.MaxInt, 0)},

		{"added once", []impl.Act{does(0, toAdd(7))}, toldNoReg(7)},
		{"added 0", []impl.Act{does(0, toAdd(0))}, toldNoReg(0)},
		{"below 0", []impl.Act{does(0, toAdd(-7)), does(0, toAdd(3))}, toldNoReg(-4)},
		{"added twice in one", []impl.Act{does(0, toAdd(5), toAdd(5)), does(0, toAdd(-1))}, toldNoReg(9)},
		{"up and down again", []impl.Act{does(0, toAdd(5)), does(0, toAdd(-5))}, toldNoReg(0)},
		{"past the greatest", []impl.Act{does(0, toAdd(math.MaxInt)), does(0, toAdd(1))}, toldNoReg(math.MinInt)},
		{"past the least", []impl.Act{does(0, toAdd(math.MinInt)), does(0, toAdd(-1))}, toldNoReg(math.MaxInt)},
		{"the greatest twice", []impl.Act{does(0, toAdd(math.MaxInt), toAdd(math.MaxInt))}, toldNoReg(-2)},
		{"the least twice", []impl.Act{does(0, toAdd(math.MinInt), toAdd(math.MinInt), toAdd(3))}, toldNoReg(3)},
		{"wrapped and back", []impl.Act{does(0, toAdd(math.MaxInt), toAdd(2)), does(0, toAdd(-2))}, toldNoReg(math.MaxInt)},

		{"all facets at once", []impl.Act{does(0, toSet(1), toAdd(2), toIns(3)), does(0, toAdd(1), toSet(4), toIns(1))}, told(4, 3, 1, 3)},
	} {
		t.Run(c.what, func(t *testing.T) { checkTold(t, writeAll(c.acts...), 1, c.want) })
	}
}

func TestItemsOfOnePlace(t *testing.T) {
	for _, c := range []struct {
		what  string
		acts  []impl.Act
		items []int
	}{
		{"put once", []impl.Act{does(0, toIns(7))}, []int{7}},
		{"0 is one, too", []impl.Act{does(0, toIns(0))}, []int{0}},
		{"put twice by one", []impl.Act{does(0, toIns(7), toIns(7))}, []int{7}},
		{"put twice by two", []impl.Act{does(0, toIns(7)), does(0, toIns(7))}, []int{7}},
		{"ascending", []impl.Act{does(0, toIns(7), toIns(-2), toIns(3)), does(0, toIns(0), toIns(-9), toIns(7))}, []int{-9, -2, 0, 3, 7}},
		{"the ends", []impl.Act{does(0, toIns(math.MaxInt), toIns(0), toIns(math.MinInt))}, []int{math.MinInt, 0, math.MaxInt}},
		{"the ends taken out", []impl.Act{does(0, toIns(math.MaxInt), toIns(0), toIns(math.MinInt)), does(0, toRem(math.MinInt), toRem(math.MaxInt))}, []int{0}},

		{"taken out by one that knows", []impl.Act{does(0, toIns(7)), does(0, toRem(7))}, nil},
		{"much later", []impl.Act{does(0, toIns(7)), does(0, toIns(8)), gives(0, 1, 0, 1), does(0, toRem(7))}, []int{8}},
		{"both puttings by one", []impl.Act{does(0, toIns(7), toIns(7)), does(0, toRem(7))}, nil},
		{"both puttings by two", []impl.Act{does(0, toIns(7)), does(0, toIns(7)), does(0, toRem(7))}, nil},
		{"taken out twice", []impl.Act{does(0, toIns(7)), does(0, toRem(7), toRem(7)), does(0, toRem(7))}, nil},
		{"one of several", []impl.Act{does(0, toIns(3), toIns(7), toIns(1)), does(0, toRem(3))}, []int{1, 7}},
		{"another value", []impl.Act{does(0, toIns(7)), does(0, toRem(8), toRem(-7), toRem(0))}, []int{7}},
		{"nothing was put", []impl.Act{does(0, toRem(7))}, nil},

		{"put behind its taking out", []impl.Act{does(0, toRem(7)), does(0, toIns(7))}, []int{7}},
		{"put again", []impl.Act{does(0, toIns(7)), does(0, toRem(7)), does(0, toIns(7))}, []int{7}},
		{"put again, taken out again", []impl.Act{does(0, toIns(7)), does(0, toRem(7)), does(0, toIns(7)), does(0, toRem(7))}, nil},
		{"put again in the same act", []impl.Act{does(0, toIns(7)), does(0, toRem(7), toIns(7))}, []int{7}},

		{"put and taken out in one", []impl.Act{does(0, toIns(7), toRem(7))}, nil},
		{"taken out and put in one", []impl.Act{does(0, toRem(7), toIns(7))}, []int{7}},
		{"put, taken out, put in one", []impl.Act{does(0, toIns(7), toRem(7), toIns(7))}, []int{7}},
		{"taken out, put, taken out in one", []impl.Act{does(0, toRem(7), toIns(7), toRem(7))}, nil},
		{"far behind in one", []impl.Act{does(0, toIns(7), toIns(8), toAdd(1), toSet(1), toRem(7))}, []int{8}},
		{"another value in one", []impl.Act{does(0, toIns(7), toRem(8))}, []int{7}},
		{"an older one and its own", []impl.Act{does(0, toIns(7)), does(0, toIns(7), toRem(7))}, nil},
		{"an older one, then its own", []impl.Act{does(0, toIns(7)), does(0, toIns(7), toRem(7), toIns(7))}, []int{7}},

		{"setting and adding put nothing", []impl.Act{does(0, toSet(7), toAdd(8), toIns(9))}, []int{9}},
		{"setting and adding take nothing out", []impl.Act{does(0, toIns(7)), does(0, toSet(7), toAdd(7))}, []int{7}},
	} {
		t.Run(c.what, func(t *testing.T) {
			l := writeAll(c.acts...)
			want := plainThing(l, 0, 0)
			want.Items = c.items
			checkTold(t, l, 1, want)
		})
	}
}

// TestThingsOfOtherThings: what is told of one thing goes by its own bucket and
// key alone.
func TestThingsOfOtherThings(t *testing.T) {
	for bucket := range impl.Buckets {
		for key := range impl.Keys {
			own := func(u impl.Up) impl.Up { return at(bucket, key, u) }
			l := writeAll(does(0, own(toSet(4)), own(toAdd(5)), own(toIns(6))), does(0, own(toAdd(-9))))
			checkTold(t, l, 1, thingAt(bucket, key, told(4, -4, 6)))
			for other := range impl.Buckets * impl.Keys {
				if other == bucket*impl.Keys+key {
					continue
				}
				b, k := other/impl.Keys, other%impl.Keys
				l := writeAll(does(0, own(toSet(4)), own(toIns(6))), does(0, at(b, k, toRem(6)), at(b, k, toSet(8)), at(b, k, toAdd(2))))
				checkTold(t, l, 1, thingAt(bucket, key, told(4, 0, 6)), thingAt(b, k, told(8, 2)))
				l = writeAll(does(0, own(toIns(6)), at(b, k, toRem(6)), at(b, k, toIns(6)), own(toRem(6))))
				checkTold(t, l, 1, thingAt(b, k, toldNoReg(0, 6)))
			}
		}
	}
}

// TestThingsAllAtOnce fills all twelve things, by turns at two places.
func TestThingsAllAtOnce(t *testing.T) {
	d := newDiary(2)
	var want []impl.Thing
	for number := range impl.Buckets * impl.Keys {
		b, k := number/impl.Keys, number%impl.Keys
		own := func(u impl.Up) impl.Up { return at(b, k, u) }
		d.write(number%2, does(0, own(toSet(100+number)), own(toAdd(number)), own(toAdd(-2*number)), own(toIns(number)), own(toIns(-number))))
		items := []int{-number, number}
		if number == 0 {
			items = items[:1]
		}
		want = append(want, thingAt(b, k, told(100+number, -number, items...)))
	}
	checkThings(t, d.list(), 2, want)
	d.hear(0, 1)
	for number := range impl.Buckets * impl.Keys {
		b, k := number/impl.Keys, number%impl.Keys
		d.write(0, does(0, at(b, k, toRem(number)), at(b, k, toSet(0)), at(b, k, toAdd(number))))
		want[number].Reg, want[number].Count = 0, 0
		want[number].Items = want[number].Items[:min(1, number)]
	}
	checkThings(t, d.list(), 2, want)
}

// TestThingsAmongOthers has one transaction with ups of several things, and of
// one thing several ups with others between them.
func TestThingsAmongOthers(t *testing.T) {
	l := writeAll(
		does(0, toIns(1), at(0, 1, toIns(1)), at(1, 0, toIns(1)), at(2, 3, toSet(1)), at(2, 3, toAdd(1))),
		does(0, toRem(1), at(0, 1, toIns(2)), at(0, 1, toRem(1)), at(2, 3, toSet(2)), at(2, 0, toAdd(1))),
		does(0, at(2, 3, toSet(3)), toIns(5), at(2, 3, toAdd(-3)), toIns(4), at(2, 3, toSet(-3))),
	)
	checkTold(t, l, 1,
		toldNoReg(0, 4, 5), thingAt(0, 1, toldNoReg(0, 2)), thingAt(1, 0, toldNoReg(0, 1)),
		thingAt(2, 0, toldNoReg(1)), thingAt(2, 3, told(-3, -2)))
	checkTold(t, l[:2], 1,
		thingAt(0, 1, toldNoReg(0, 2)), thingAt(1, 0, toldNoReg(0, 1)),
		thingAt(2, 0, toldNoReg(1)), thingAt(2, 3, told(2, 1)))
	checkTold(t, l[:1], 1,
		toldNoReg(0, 1), thingAt(0, 1, toldNoReg(0, 1)), thingAt(1, 0, toldNoReg(0, 1)),
		thingAt(2, 3, told(1, 1)))
}

// TestRegisterBeside: of settings beside each other, the last one in the order
// of acts counts, whoever wrote first.
func TestRegisterBeside(t *testing.T) {
	for _, first := range []int{0, 1, 2} {
		d := newDiary(3)
		for i := range 3 {
			place := (first + i) % 3
			d.write(place, does(0, toSet(10+place)))
		}
		checkTold(t, d.list(), 3, told(12, 0)) // all know as many: the last place is last
		d.hear(0, 1)
		d.write(0, does(0, toSet(20)))
		checkTold(t, d.list(), 3, told(20, 0)) // knows two: that is more than place 2 knew
		d.write(2, does(0, toSet(30)))
		checkTold(t, d.list(), 3, told(20, 0)) // knows one
		d.write(2, does(0, toSet(31)))
		checkTold(t, d.list(), 3, told(31, 0)) // knows two, as place 0, and is of a later place
		d.write(0, does(0, toAdd(1)))
		checkTold(t, d.list(), 3, told(31, 1)) // nothing is set by that
		d.hear(1, 0)
		d.hear(1, 2)
		d.write(1, does(0, toSet(40)))
		checkTold(t, d.list(), 3, told(40, 1)) // knows all
	}
	// it goes by how many acts a setting knows of, and not by when it was written
	d := newDiary(2)
	d.write(1, does(0, at(1, 1, toSet(1))))
	d.write(1, does(0, at(1, 1, toSet(2))))
	d.write(0, does(0, at(1, 1, toSet(3))))
	checkTold(t, d.list(), 2, thingAt(1, 1, told(2, 0)))
	d.write(0, does(0, at(1, 1, toSet(4))))
	checkTold(t, d.list(), 2, thingAt(1, 1, told(2, 0)))
	d.write(0, does(0, at(1, 1, toSet(5))))
	checkTold(t, d.list(), 2, thingAt(1, 1, told(5, 0)))
}

func TestCounterBeside(t *testing.T) {
	d := newDiary(3)
	d.write(0, does(0, toAdd(5), toAdd(-8)))
	d.write(1, does(0, toAdd(100)))
	d.write(2, does(0, toAdd(-1000), at(0, 1, toAdd(3))))
	checkTold(t, d.list(), 3, toldNoReg(-903), thingAt(0, 1, toldNoReg(3)))
	d.hear(0, 1)
	d.write(0, does(0, toAdd(-100)))
	d.write(1, does(0, toAdd(math.MaxInt)))
	d.write(2, does(0, toAdd(math.MaxInt), toAdd(2)))
	checkTold(t, d.list(), 3, toldNoReg(-1003), thingAt(0, 1, toldNoReg(3)))
}

// TestItemsBeside: a taking out takes away the puttings that it knew of, wherever
// it stands in the order of acts.
func TestItemsBeside(t *testing.T) {
	// it stands behind the putting, and does not know of it
	d := newDiary(2)
	d.write(0, does(0, toIns(7)))
	d.write(1, does(0, toRem(7)))
	checkTold(t, d.list(), 2, toldNoReg(0, 7))
	d.write(1, does(0, toRem(7)))
	checkTold(t, d.list(), 2, toldNoReg(0, 7))
	d.hear(1, 0)
	d.write(1, does(0, toRem(7)))
	checkTold(t, d.list(), 2)
	// it stands ahead of the putting
	d = newDiary(2)
	d.write(1, does(0))
	d.write(1, does(0, toIns(7)))
	d.write(0, does(0, toRem(7)))
	checkTold(t, d.list(), 2, toldNoReg(0, 7))
	d.hear(0, 1)
	d.write(0, does(0, toRem(8)))
	checkTold(t, d.list(), 2, toldNoReg(0, 7))
	// it knows a later act of the other place than of the putting's
	d = newDiary(3)
	d.write(0, does(0, toIns(7)))
	d.hear(1, 0)
	d.write(0, does(0, toIns(7)))
	d.write(1, does(0, toIns(8)))
	d.hear(2, 1)
	d.write(2, does(0, toRem(7), toRem(8)))
	checkTold(t, d.list(), 3, toldNoReg(0, 7)) // it knew of the first putting, not of the second one
	d.hear(2, 0)
	d.write(2, does(0, toRem(8)))
	checkTold(t, d.list(), 3, toldNoReg(0, 7)) // an act that knows both takes out another value
	d.write(2, does(0, toRem(7)))
	checkTold(t, d.list(), 3)
}

// TestItemsPutTwice: of one element put at two places, a taking out may know one
// putting, the other one, both or none.
func TestItemsPutTwice(t *testing.T) {
	for known := range 4 {
		for _, ins := range [][]impl.Up{{toIns(7)}, {toIns(7), toIns(7)}, {toIns(7), toRem(7), toIns(7)}} {
			d := newDiary(3)
			d.write(0, does(0, ins...))
			d.write(1, does(0, ins...))
			for place := range 2 {
				if known>>place&1 == 1 {
					d.hear(2, place)
				}
			}
			d.write(2, does(0, toRem(7)))
			if known == 3 {
				checkTold(t, d.list(), 3)
			} else {
				checkTold(t, d.list(), 3, toldNoReg(0, 7))
			}
			// those who take it out each what they know
			d.hear(0, 2)
			d.write(0, does(0, toRem(7)))
			if known >= 2 {
				checkTold(t, d.list(), 3)
			} else {
				checkTold(t, d.list(), 3, toldNoReg(0, 7))
			}
			d.write(1, does(0, toRem(7)))
			checkTold(t, d.list(), 3)
			d.write(1, does(0, toIns(7)))
			checkTold(t, d.list(), 3, toldNoReg(0, 7))
		}
	}
}

// TestItemsByPlaceAndNumber: acts of one number at other places, and other acts
// of one place, are not taken for each other.
func TestItemsByPlaceAndNumber(t *testing.T) {
	d := newDiary(3)
	d.write(0, does(0, toIns(1)))
	d.write(1, does(0, toIns(2)))
	d.write(2, does(0, toIns(3)))
	d.write(0, does(0, toIns(4)))
	d.hear(2, 0)
	d.write(2, does(0, toRem(1), toRem(2), toRem(3), toRem(4)))
	checkTold(t, d.list(), 3, toldNoReg(0, 2))
	d.write(0, does(0, toIns(4)))
	d.write(1, does(0, toIns(1)))
	checkTold(t, d.list(), 3, toldNoReg(0, 1, 2, 4))
}

// takenBack is a story of a right that is taken back: what actor 1 did is told,
// or not.
type takenBack struct {
	d     *diary
	given impl.Act
}

// newTakenBack lets three places know that actor 1 may do all in bucket 0 and 1.
func newTakenBack() takenBack {
	s := takenBack{d: newDiary(3)}
	s.given = s.d.write(0, gives(0, 1, 0, allRights))
	s.d.write(0, gives(0, 1, 1, allRights))
	s.d.write(0, does(0, toSet(1), toAdd(1), toIns(1), toIns(2)))
	s.d.hear(1, 0)
	s.d.hear(2, 0)
	return s
}

// ends gives what ends the right of actor 1 in bucket 0.
func (s takenBack) ends() []impl.Act {
	return []impl.Act{takes(0, s.given), limits(0, 0, 0), limits(0, 0, read+hand)}
}

// TestThingsHidden: of a transaction that does not know that its right is taken
// back none of the ups is told, be they of the bucket or of another one.
func TestThingsHidden(t *testing.T) {
	before := told(1, 1, 1, 2)
	for end := range 3 {
		for _, c := range []struct {
			ups  []impl.Up
			with []impl.Thing
		}{
			{[]impl.Up{toSet(9)}, []impl.Thing{told(9, 1, 1, 2)}},
			{[]impl.Up{toAdd(9)}, []impl.Thing{told(1, 10, 1, 2)}},
			{[]impl.Up{toIns(9)}, []impl.Thing{told(1, 1, 1, 2, 9)}},
			{[]impl.Up{toRem(1)}, []impl.Thing{told(1, 1, 2)}},
			{[]impl.Up{toRem(1), toRem(2)}, []impl.Thing{told(1, 1)}},
			{[]impl.Up{toSet(0), toAdd(-1), toIns(-1), toRem(2), toIns(1)}, []impl.Thing{told(0, 0, -1, 1)}},
			{[]impl.Up{at(1, 3, toSet(9)), toAdd(9)}, []impl.Thing{told(1, 10, 1, 2), thingAt(1, 3, told(9, 0))}},
			{[]impl.Up{at(1, 0, toIns(9)), at(1, 0, toAdd(9)), toRem(1)}, []impl.Thing{told(1, 1, 2), thingAt(1, 0, toldNoReg(9, 9))}},
		} {
			s := newTakenBack()
			s.d.write(1, does(1, c.ups...))
			checkTold(t, s.d.list(), 3, c.with...)
			s.d.write(0, s.ends()[end])
			checkTold(t, s.d.list(), 3, before)
			s.d.hear(1, 0)
			s.d.write(1, does(1, c.ups...)) // knows that the right is gone
			checkTold(t, s.d.list(), 3, before)

			s = newTakenBack()
			s.d.write(1, does(1, c.ups...))
			s.d.hear(0, 1)
			s.d.write(0, s.ends()[end]) // knows what was written
			checkTold(t, s.d.list(), 3, c.with...)
		}
		// ups of bucket 1 alone stay, and so do those of the keeper
		s := newTakenBack()
		s.d.write(1, does(1, at(1, 2, toSet(4)), at(1, 2, toIns(5))))
		s.d.write(2, does(0, toAdd(6), toRem(1)))
		s.d.write(0, s.ends()[end])
		checkTold(t, s.d.list(), 3, told(1, 7, 2), thingAt(1, 2, told(4, 0, 5)))
	}
}

// TestThingsOfKnownAndUnknown has acts of one actor, some of which the keeper knew.
func TestThingsOfKnownAndUnknown(t *testing.T) {
	s := newTakenBack()
	s.d.write(1, does(1, toSet(5), toAdd(5), toIns(5)))
	s.d.hear(0, 1)
	s.d.write(1, does(1, toSet(6), toAdd(6), toIns(6), toRem(5), toRem(1)))
	s.d.write(2, does(1, toSet(7), toAdd(7), toRem(2), toIns(7)))
	checkTold(t, s.d.list(), 3, told(6, 19, 6, 7))
	s.d.write(0, takes(0, s.given))
	checkTold(t, s.d.list(), 3, told(5, 6, 1, 2, 5))
	// a new grant brings back nothing that was hidden
	s.d.write(0, gives(0, 1, 0, allRights))
	checkTold(t, s.d.list(), 3, told(5, 6, 1, 2, 5))
	s.d.hear(1, 0)
	s.d.write(1, does(1, toAdd(1), toRem(6), toRem(5)))
	checkTold(t, s.d.list(), 3, told(5, 7, 1, 2))
}

// TestThingsOfHiddenPuttings: what is put by a hidden act is not there, nor does
// a taking out that does not count take away what was put.
func TestThingsOfHiddenPuttings(t *testing.T) {
	d := newDiary(2)
	d.write(0, does(1, toIns(7), toSet(7), toAdd(7))) // has no right
	checkTold(t, d.list(), 2)
	d.write(0, does(0, toIns(7)))
	d.write(0, does(1, toRem(7)))
	checkTold(t, d.list(), 2, toldNoReg(0, 7))
	d.write(0, gives(0, 1, 0, add))
	d.write(0, does(1, toAdd(3), toRem(7))) // may add alone
	checkTold(t, d.list(), 2, toldNoReg(0, 7))
	d.write(0, does(1, toAdd(3)))
	checkTold(t, d.list(), 2, toldNoReg(3, 7))
	d.write(0, gives(0, 1, 0, write))
	d.write(0, does(1, toAdd(3), toRem(7)))
	checkTold(t, d.list(), 2, toldNoReg(6))
}

func TestThingsOfNoActs(t *testing.T) {
	for n := 1; n <= impl.MaxPlaces; n++ {
		checkTold(t, nil, n)
		checkTold(t, []impl.Act{}, n)
		for place := range n {
			a := does(0, at(2, 3, toSet(0)), at(0, 0, toIns(n)), at(2, 0, toAdd(place)), at(0, 3, toRem(1)))
			a.R, a.N, a.Dep = place, 1, make([]int, n)
			checkTold(t, []impl.Act{a}, n, toldNoReg(0, n), thingAt(2, 0, toldNoReg(place)), thingAt(2, 3, told(0, 0)))
		}
	}
	for _, n := range []int{math.MinInt, -1, 0, impl.MaxPlaces + 1, math.MaxInt} {
		checkNoThings(t, nil, n)
		checkNoThings(t, []impl.Act{}, n)
	}
}

// TestNoSuchThing asks for buckets and keys that are not there.
func TestNoSuchThing(t *testing.T) {
	var acts []impl.Act
	for number := range impl.Buckets * impl.Keys {
		b, k := number/impl.Keys, number%impl.Keys
		acts = append(acts, does(0, at(b, k, toSet(1)), at(b, k, toAdd(2)), at(b, k, toIns(3))))
	}
	g := guardActs(writeAll(acts...))
	numbers := []int{math.MinInt, -12, -4, -3, -2, -1, 0, 1, 2, 3, 4, 5, 12, 256, 1 << 32, 1 << 62, math.MaxInt}
	for _, bucket := range numbers {
		for _, key := range numbers {
			want := impl.Thing{}
			if bucket >= 0 && bucket < 3 && key >= 0 && key < 4 {
				want = told(1, 2, 3)
			}
			checkOne(t, g.list, 1, bucket, key, want)
			checkOne(t, nil, 1, bucket, key, impl.Thing{})
			checkOne(t, g.list, 2, bucket, key, impl.Thing{})
		}
	}
	g.check(t, "RegAt, CountAt, ItemsAt")
}

func TestThingsOfNoSet(t *testing.T) {
	s := newTakenBack()
	s.d.write(1, does(1, toSet(5), toAdd(5), toIns(5), at(2, 3, toAdd(0))))
	s.d.write(2, does(0, toSet(6), toAdd(6), toRem(2)))
	s.d.hear(0, 2)
	s.d.write(0, does(1, at(1, 1, toIns(4)), toRem(1)))
	l := s.d.list()
	checkThings(t, l, 3, plainThings(l, 3))
	for _, n := range []int{math.MinInt, -1, 0, 1, 2, 4, 5, math.MaxInt} {
		checkNoThings(t, l, n)
	}
	refused := 0
	for _, m := range spoiled(l) {
		if plainSetOk(m, 3) {
			checkThings(t, m, 3, plainThings(m, 3))
			continue
		}
		refused++
		checkNoThings(t, m, 3)
	}
	if refused < 50 {
		t.Fatal("this says little", refused)
	}
	// ups that no transaction may have
	for _, u := range []impl.Up{
		{}, {Kind: 5}, {Kind: -1}, at(-1, 0, toSet(1)), at(3, 0, toSet(1)), at(0, -1, toAdd(1)), at(0, 4, toIns(1)),
	} {
		checkNoThings(t, writeAll(does(0, toSet(1), toAdd(1), toIns(1)), does(0, u)), 1)
	}
	checkNoThings(t, writeAll(does(0, make([]impl.Up, 6)...)), 1)
	withUps := gives(0, 1, 0, 1)
	withUps.Ups = []impl.Up{toSet(1)}
	checkNoThings(t, writeAll(does(0, toSet(1)), withUps), 1)
}

func TestThingsOfMaxActs(t *testing.T) {
	acts := []impl.Act{gives(0, 1, 0, write+add)}
	for number := range impl.MaxActs {
		acts = append(acts, does(number%2, toSet(number), toAdd(number), toIns(number), toIns(-number), toRem(number-3)))
	}
	// the last three are not yet taken out, and of those below 0 one alone was put in time
	want := told(58, 58*59/2)
	for number := 58; number > 1; number-- {
		want.Items = append(want.Items, -number)
	}
	want.Items = append(want.Items, 56, 57, 58)
	full := writeAll(acts[:impl.MaxActs]...)
	checkTold(t, full, 1, want)
	checkNoThings(t, writeAll(acts...), 1)

	// a right that was taken back beside all of that hides what was written under it
	d := newDiary(2)
	for _, a := range acts[:impl.MaxActs-1] {
		d.write(0, a)
	}
	d.write(1, limits(0, 0, 0))
	l := d.list()
	want = told(56, 28*29)
	for number := 56; number >= 0; number -= 2 {
		want.Items = append(want.Items, -number)
	}
	for number := 2; number <= 56; number += 2 {
		want.Items = append(want.Items, number)
	}
	// what is left takes out odd values alone, and has put even ones
	checkTold(t, l, 2, want)
	d.write(1, does(0))
	checkNoThings(t, d.list(), 2)
}

// checkSameThings asks both ways round.
func checkSameThings(t *testing.T, a, b []impl.Thing, want bool) {
	t.Helper()
	g, h := guardThings(a), guardThings(b)
	if impl.SameThings(g.list, h.list) != want || impl.SameThings(h.list, g.list) != want || impl.SameThings(a, b) != want {
		t.Fatalf("SameThings(%+v, %+v): not %v", a, b, want)
	}
	g.check(t)
	h.check(t)
}

// unlikeThings gives things that differ from x in one field each.
func unlikeThings(x impl.Thing) []impl.Thing {
	var unlike []impl.Thing
	change := func(do func(x *impl.Thing)) {
		y := x
		y.Items = slices.Clone(x.Items)
		do(&y)
		unlike = append(unlike, y)
	}
	for _, step := range []int{1, -1, 256, 1 << 32, math.MinInt} {
		change(func(x *impl.Thing) { x.Bucket += step })
		change(func(x *impl.Thing) { x.Key += step })
		change(func(x *impl.Thing) { x.Reg += step })
		change(func(x *impl.Thing) { x.Count += step })
		for i := range x.Items {
			change(func(x *impl.Thing) { x.Items[i] += step })
		}
	}
	change(func(x *impl.Thing) { x.Has = !x.Has })
	change(func(x *impl.Thing) { x.Items = append(x.Items, 0) })
	change(func(x *impl.Thing) { x.Items = append(x.Items, 99) })
	change(func(x *impl.Thing) { x.Items = append([]int{math.MinInt}, x.Items...) })
	if len(x.Items) > 0 {
		change(func(x *impl.Thing) { x.Items = nil })
		change(func(x *impl.Thing) { x.Items = x.Items[1:] })
	}
	if len(x.Items) > 1 {
		change(func(x *impl.Thing) { slices.Reverse(x.Items) })
		change(func(x *impl.Thing) { x.Items = x.Items[:len(x.Items)-1] })
	}
	return unlike
}

func TestSameThingsByFields(t *testing.T) {
	empty := impl.Thing{}
	checkSameThings(t, nil, nil, true)
	checkSameThings(t, nil, []impl.Thing{}, true)
	checkSameThings(t, []impl.Thing{}, []impl.Thing{}, true)
	checkSameThings(t, nil, []impl.Thing{empty}, false)
	checkSameThings(t, []impl.Thing{}, []impl.Thing{empty}, false)
	checkSameThings(t, []impl.Thing{empty}, []impl.Thing{empty}, true)
	checkSameThings(t, []impl.Thing{empty}, []impl.Thing{empty, empty}, false)
	checkSameThings(t, []impl.Thing{{Items: nil}}, []impl.Thing{{Items: []int{}}}, true)
	checkSameThings(t, []impl.Thing{{Key: 1, Items: nil}}, []impl.Thing{{Key: 1, Items: make([]int, 0, 9)}}, true)
	checkSameThings(t, []impl.Thing{{Items: nil}}, []impl.Thing{{Items: []int{0}}}, false)
	for _, x := range []impl.Thing{
		empty, told(0, 0), told(7, -3, 1, 2, 3), thingAt(2, 3, toldNoReg(5, -1)), thingAt(1, 0, told(-7, 0, 0, 1)),
		// it asks not whether a thing can be: what is there need not be good
		{Bucket: -7, Key: 99, Reg: 5, Count: math.MinInt, Items: []int{3, 3, 1}},
	} {
		same := x
		same.Items = slices.Clone(x.Items)
		other := thingAt(0, 3, told(1, 1, 1))
		checkSameThings(t, []impl.Thing{x}, []impl.Thing{same}, true)
		checkSameThings(t, []impl.Thing{other, x, other}, []impl.Thing{other, same, other}, true)
		for _, y := range unlikeThings(x) {
			checkSameThings(t, []impl.Thing{x}, []impl.Thing{y}, false)
			checkSameThings(t, []impl.Thing{y, x}, []impl.Thing{x, x}, false)
			checkSameThings(t, []impl.Thing{other, y}, []impl.Thing{other, x}, false)
			checkSameThings(t, []impl.Thing{x, y}, []impl.Thing{y, x}, false)
		}
	}
}

func TestSameThingsByOrder(t *testing.T) {
	all := allThings(told(1, 2, 3), thingAt(1, 2, told(1, 2, 3)), thingAt(2, 3, toldNoReg(-1, 0, 4)))
	checkSameThings(t, all, copyThings(all), true)
	for i := range all {
		for j := range i {
			turned := copyThings(all)
			turned[i], turned[j] = turned[j], turned[i]
			checkSameThings(t, all, turned, false)
		}
		for _, x := range unlikeThings(all[i]) {
			changed := copyThings(all)
			changed[i] = x
			checkSameThings(t, all, changed, false)
		}
		checkSameThings(t, all, all[:i], false)
		checkSameThings(t, all, all[i+1:], false)
		checkSameThings(t, all[:i], copyThings(all)[:i], true)
		checkSameThings(t, all, slices.Delete(copyThings(all), i, i+1), false)
	}
	checkSameThings(t, all, append(copyThings(all), all[11]), false)
}

// thingStory gives what places wrote that met now and then: mostly puttings and
// takings out of few values, by the keeper and by others who have a right at
// first; now and then a right is taken back, or given anew.
func thingStory(rnd *rand.Rand, places, count int) []impl.Act {
	d := newDiary(places)
	for k := range min(3, count) {
		d.write(0, gives(0, 1+k%2, k/2, write+add))
	}
	for place := range places {
		d.hear(place, 0)
	}
	for len(d.acts) < count {
		place := rnd.IntN(places)
		if rnd.IntN(3) == 0 {
			d.hear(place, rnd.IntN(places))
		}
		if rnd.IntN(7) == 0 {
			d.write(place, d.randomAct(rnd, place))
			continue
		}
		var ups []impl.Up
		for range 1 + rnd.IntN(impl.MaxUps) {
			u := impl.Up{Kind: 1 + rnd.IntN(4), Val: rnd.IntN(3) - 1}
			ups = append(ups, at(rnd.IntN(8)/7, rnd.IntN(8)/7, u))
		}
		d.write(place, does(rnd.IntN(3), ups...))
	}
	return d.list()
}

func TestThingsAgainstThePlainOnes(t *testing.T) {
	rnd := rand.New(rand.NewPCG(6, 29))
	hidden, gone, stays, registers := 0, 0, 0, map[int]int{}
	for turn := range 150 {
		n := 1 + turn%impl.MaxPlaces
		l := thingStory(rnd, n, turn%30)
		checkThings(t, l, n, plainThings(l, n))
		for k, a := range l {
			if len(a.Ups) > 0 && !plainCounts(l, k) {
				hidden++
			}
		}
		ups := plainUps(l, 0, 0)
		for _, u := range ups {
			switch {
			case u.Kind == impl.UpIns && plainGone(l, ups, u):
				gone++
			case u.Kind == impl.UpIns:
				stays++
			}
		}
		registers[plainThing(l, 0, 0).Reg]++
	}
	if hidden < 200 || gone < 200 || stays < 200 || len(registers) < 3 {
		t.Fatal("this says little", hidden, gone, stays, registers)
	}
}

// TestThingsOfEachOther: Things tell what RegAt, CountAt and ItemsAt tell, and
// SameThings tell whether all of that is the same.
func TestThingsOfEachOther(t *testing.T) {
	rnd := rand.New(rand.NewPCG(6, 4))
	alike := map[bool]int{}
	for turn := range 100 {
		n := 1 + turn%impl.MaxPlaces
		l := thingStory(rnd, n, 4+turn%20)
		things := impl.Things(l, n)
		for number, x := range things {
			want := impl.Thing{Bucket: number / 4, Key: number % 4}
			want.Reg, want.Has = impl.RegAt(l, n, want.Bucket, want.Key)
			want.Count = impl.CountAt(l, n, want.Bucket, want.Key)
			want.Items = impl.ItemsAt(l, n, want.Bucket, want.Key)
			if !plainSameThing(x, want) {
				t.Fatal(x, want)
			}
		}
		for k := range l {
			if m := slices.Delete(slices.Clone(l), k, k+1); plainSetOk(m, n) {
				others := impl.Things(m, n)
				same := slices.EqualFunc(things, others, plainSameThing)
				checkSameThings(t, things, others, same)
				alike[same]++
			}
		}
	}
	if alike[true] < 30 || alike[false] < 30 {
		t.Fatal("this says little", alike)
	}
}

// TestPromise6Hidden: with a right taken back at a place that knows a part of
// what was written, all is told as if those who did not know had done nothing.
func TestPromise6Hidden(t *testing.T) {
	rnd := rand.New(rand.NewPCG(6, 1))
	hiding, staying, changed := 0, 0, 0
	for turn := range 300 {
		n := 1 + turn%impl.MaxPlaces
		l := thingStory(rnd, n, 8+turn%20)
		end := nextAlone(l, n, rnd.IntN(n), limits(0, 0, read))
		more, ok := impl.AddAct(l, n, end)
		if !ok {
			t.Fatal("no ceiling", l, end)
		}
		silent := copyActs(more)
		for k, a := range more {
			inBucket := slices.ContainsFunc(a.Ups, func(u impl.Up) bool { return u.Bucket == 0 })
			switch {
			case !inBucket || a.Actor == 0:
			case plainKnows(end, a):
				staying++
			default:
				silent[k].Ups = nil
				hiding++
			}
		}
		things := impl.Things(more, n)
		if !impl.SameThings(things, impl.Things(silent, n)) {
			t.Fatal("not hidden", more, end)
		}
		if !impl.SameThings(things, impl.Things(l, n)) {
			changed++
		}
	}
	if hiding < 300 || staying < 300 || changed < 100 {
		t.Fatal("this says little", hiding, staying, changed)
	}
}

// TestPromise6Known: whatever is done by one who knows all: a register is what
// was set, a counter is more by what was added, what is put is there, and what
// is taken out is gone.
func TestPromise6Known(t *testing.T) {
	rnd := rand.New(rand.NewPCG(6, 2))
	for turn := range 120 {
		n := 1 + turn%impl.MaxPlaces
		l := thingStory(rnd, n, 3+turn%25)
		before := impl.Things(l, n)
		for val := -2; val <= 2; val++ {
			for number, x := range before {
				next := func(kind int) []impl.Act {
					u := at(x.Bucket, x.Key, impl.Up{Kind: kind, Val: val})
					return append(slices.Clone(l), nextOf(l, n, turn%n, does(0, u)))
				}
				x.Has, x.Reg = true, val
				checkOneChanged(t, next(impl.UpSet), n, before, x)
				x = before[number]
				x.Count += val
				checkOneChanged(t, next(impl.UpAdd), n, before, x)
				x = before[number]
				x.Items = slices.DeleteFunc(slices.Clone(x.Items), func(item int) bool { return item == val })
				checkOneChanged(t, next(impl.UpRem), n, before, x)
				x.Items = append(x.Items, val)
				slices.Sort(x.Items)
				checkOneChanged(t, next(impl.UpIns), n, before, x)
			}
		}
	}
}

// checkOneChanged says that l tells the things that were before, but for x.
func checkOneChanged(t *testing.T, l []impl.Act, n int, before []impl.Thing, x impl.Thing) {
	t.Helper()
	want := slices.Clone(before)
	want[x.Bucket*impl.Keys+x.Key] = x
	if got := impl.Things(l, n); !impl.SameThings(got, want) || !slices.EqualFunc(got, want, plainSameThing) {
		t.Fatalf("Things(%+v, %d): %+v, not %+v", l, n, got, want)
	}
}

// TestPromise6Unknown: a taking out that knows of nothing that was put takes
// nothing away, wherever in the order of acts it comes.
func TestPromise6Unknown(t *testing.T) {
	rnd := rand.New(rand.NewPCG(6, 3))
	stays, ahead := 0, 0
	for turn := range 150 {
		n := 2 + turn%(impl.MaxPlaces-1)
		l := thingStory(rnd, n, 6+turn%20)
		l = slices.DeleteFunc(l, func(a impl.Act) bool { return a.R == n-1 || a.Dep[n-1] > 0 })
		if !plainSetOk(l, n) {
			continue
		}
		for idle := range 3 {
			var more []impl.Act
			for range 1 + idle*2 {
				alone := nextAlone(append(slices.Clone(l), more...), n, n-1, does(0, toRem(-1), toRem(0), toRem(1)))
				more = append(more, alone)
			}
			all := inOrder(append(slices.Clone(l), more...))
			things := impl.Things(all, n)
			if !impl.SameThings(things, impl.Things(l, n)) {
				t.Fatal("taken away by those who did not know", all)
			}
			stays += len(things[0].Items)
			ahead += len(all) - 1 - plainFind(all, n-1, 1)
		}
	}
	if stays < 200 || ahead < 200 {
		t.Fatal("this says little", stays, ahead)
	}
}

// TestPromise6InAnyOrder: in whatever order acts are heard, what is told goes by
// what is known, at each step and at the end.
func TestPromise6InAnyOrder(t *testing.T) {
	rnd := rand.New(rand.NewPCG(6, 5))
	for turn := range 60 {
		n := 1 + turn%impl.MaxPlaces
		l := thingStory(rnd, n, 5+turn%20)
		var heard []impl.Act
		for _, a := range hearing(rnd, l) {
			heard, _ = impl.AddAct(heard, n, a)
			if !slices.EqualFunc(impl.Things(heard, n), plainThings(heard, n), plainSameThing) {
				t.Fatal("not what is known", heard)
			}
		}
		if !impl.SameThings(impl.Things(heard, n), impl.Things(l, n)) {
			t.Fatal("the order tells", heard, l)
		}
	}
}
