package tests

import (
	"math"
	"math/rand/v2"
	"slices"
	"testing"

	"loop.example/g00717/impl"
)

// plainSettled says once more what the document asks of a good set: of the acts
// of one place the last one comes last.
func plainSettled(l []impl.Act, n int) []int {
	if !plainSetOk(l, n) {
		return nil
	}
	v := countsOf(l, n)
	for place := range n {
		known := make([]int, n)
		for _, a := range l {
			if a.R == place {
				copy(known, a.Dep)
				known[place] = a.N
			}
		}
		for i, count := range known {
			v[i] = min(v[i], count)
		}
	}
	return v
}

// plainOld gives for each act of a good set whether it is settled, and whether
// it counts besides.
func plainOld(l []impl.Act, n int) (old, told []bool) {
	settled := plainSettled(l, n)
	for k, a := range l {
		old = append(old, a.N <= settled[a.R])
		told = append(told, old[k] && plainCounts(l, k))
	}
	return old, told
}

// plainNeedless says of up number i of act number k, which is settled and counts,
// whether nobody needs it: it looks at all ups of all such acts.
func plainNeedless(l []impl.Act, told []bool, k, i int) bool {
	u := l[k].Ups[i]
	for m, a := range l {
		for j, w := range a.Ups {
			if !told[m] || w.Bucket != u.Bucket || w.Key != u.Key {
				continue
			}
			behind := m == k && j > i
			if u.Kind == 1 && w.Kind == 1 && (behind || m > k) {
				return true
			}
			if u.Kind == 3 && w.Kind == 4 && w.Val == u.Val && (behind || plainKnows(a, l[k])) {
				return true
			}
		}
	}
	return u.Kind == 4
}

func plainTidy(l []impl.Act, n int) []impl.Act {
	if !plainSetOk(l, n) {
		return nil
	}
	old, told := plainOld(l, n)
	tidied := copyActs(l)
	for k, a := range l {
		if !old[k] {
			continue
		}
		tidied[k].Ups = nil
		for i, u := range a.Ups {
			if told[k] && !plainNeedless(l, told, k, i) {
				tidied[k].Ups = append(tidied[k].Ups, u)
			}
		}
	}
	return tidied
}

func checkSettled(t *testing.T, l []impl.Act, n int, want ...int) {
	t.Helper()
	g := guardActs(l)
	change := func(count int) int { return -count - 77 }
	checkList(t, "Settled", want, change, func() []int { return impl.Settled(g.list, n) })
	g.check(t, "Settled")
}

func checkUpCount(t *testing.T, l []impl.Act, want int) {
	t.Helper()
	g := guardActs(l)
	if got := impl.UpCount(g.list); got != want {
		t.Fatalf("UpCount(%+v): %d, not %d", l, got, want)
	}
	g.check(t, "UpCount")
}

// checkTidied asks for l tidied. What comes back must tell the same, have no more
// ups, and stay when it is tidied again.
func checkTidied(t *testing.T, l []impl.Act, n int, want []impl.Act) {
	t.Helper()
	g := guardActs(l)
	checkActs(t, "Tidy", want, func() []impl.Act { return impl.Tidy(g.list, n) })
	g.check(t, "Tidy")
	tidied := impl.Tidy(l, n)
	checkActs(t, "Tidy again", want, func() []impl.Act { return impl.Tidy(tidied, n) })
	if !impl.SameThings(impl.Things(tidied, n), impl.Things(l, n)) {
		t.Fatalf("%+v, tidied for %d, tells other things", l, n)
	}
	if impl.UpCount(tidied) > impl.UpCount(l) || !slices.Equal(impl.Settled(tidied, n), impl.Settled(l, n)) {
		t.Fatalf("%+v, tidied for %d, has more ups, or others settled", l, n)
	}
}

// checkLeft is given the ups that are left of each act.
func checkLeft(t *testing.T, l []impl.Act, n int, left ...[]impl.Up) {
	t.Helper()
	if len(left) != len(l) {
		t.Fatal("the test says what is left of another number of acts", len(l), len(left))
	}
	want := copyActs(l)
	count := 0
	for k := range want {
		want[k].Ups = left[k]
		count += len(left[k])
	}
	if !sameActs(plainTidy(l, n), want) {
		t.Fatalf("the plain function leaves other ups: %+v", plainTidy(l, n))
	}
	checkTidied(t, l, n, want)
	checkUpCount(t, impl.Tidy(l, n), count)
}

// checkUntidied asks everything of a list that is no set.
func checkUntidied(t *testing.T, l []impl.Act, n int) {
	t.Helper()
	checkSettled(t, l, n)
	g := guardActs(l)
	checkActs(t, "Tidy", nil, func() []impl.Act { return impl.Tidy(g.list, n) })
	g.check(t, "Tidy")
}

// left gives the ups themselves, for what is left of an act.
func left(ups ...impl.Up) []impl.Up { return ups }

// meetAll lets all places hear of all that was written.
func (d *diary) meetAll() {
	for place := range d.known {
		for other := range d.known {
			d.hear(place, other)
		}
	}
}

// settle lets all places hear of all, and say so by acts that do nothing. It
// gives how many acts were there ahead of that: these are settled then.
func (d *diary) settle() int {
	count := len(d.acts)
	d.meetAll()
	for place := range d.known {
		d.write(place, does(0))
	}
	return count
}

// none says of that many acts that nothing is left of each.
func none(count int) [][]impl.Up {
	return make([][]impl.Up, count)
}

func TestSettledByHand(t *testing.T) {
	a1, b1, a2, b2, a3 := twoPlaces()
	for _, c := range []struct {
		what string
		l    []impl.Act
		n    int
		want []int
	}{
		{"no acts", nil, 1, []int{0}},
		{"no acts, two places", nil, 2, []int{0, 0}},
		{"no acts, all places", []impl.Act{}, 4, []int{0, 0, 0, 0}},
		{"one act, one place", chain(0, 1, 1), 1, []int{1}},
		{"many acts, one place", chain(0, 17, 1), 1, []int{17}},
		{"MaxActs, one place", chain(0, impl.MaxActs, 1), 1, []int{impl.MaxActs}},
		{"another place has none", chain(0, 17, 2), 2, []int{0, 0}},
		{"the first place has none", chain(1, 17, 2), 2, []int{0, 0}},
		{"MaxActs, other places have none", chain(2, impl.MaxActs, 4), 4, []int{0, 0, 0, 0}},

		{"one each, apart", []impl.Act{a1, b1}, 2, []int{0, 0}},
		{"a second one", []impl.Act{a1, b1, a2}, 2, []int{0, 0}},
		{"one place heard the other", []impl.Act{a1, b1, a2, b2}, 2, []int{1, 0}},
		{"without the second one", []impl.Act{a1, b1, b2}, 2, []int{1, 0}},
		{"both heard each other", []impl.Act{a1, b1, a2, b2, a3}, 2, []int{1, 2}},
		{"the last one tells", []impl.Act{a1, b1, a2, b2, act(1, 3, 1, 2), a3}, 2, []int{1, 2}},
		{"all of it", []impl.Act{a1, b1, a2, b2, a3, act(1, 3, 3, 2)}, 2, []int{3, 2}},
		{"and one more", []impl.Act{a1, b1, a2, b2, a3, act(1, 3, 3, 2), act(0, 4, 3, 3)}, 2, []int{3, 3}},

		{"three, of which one has none", []impl.Act{act(0, 1, 0, 0, 0), act(1, 1, 1, 0, 0), act(0, 2, 1, 1, 0)}, 3, []int{0, 0, 0}},
		{"three in a row", []impl.Act{act(0, 1, 0, 0, 0), act(1, 1, 1, 0, 0), act(2, 1, 1, 1, 0)}, 3, []int{1, 0, 0}},
		{"three in a ring", []impl.Act{act(0, 1, 0, 0, 0), act(1, 1, 1, 0, 0), act(2, 1, 1, 1, 0), act(0, 2, 1, 1, 1)}, 3, []int{1, 1, 0}},
		{"one not heard of again", []impl.Act{act(0, 1, 0, 0, 0), act(1, 1, 1, 0, 0), act(2, 1, 1, 0, 0), act(0, 2, 1, 1, 1), act(1, 2, 2, 1, 1), act(0, 3, 2, 2, 1)}, 3, []int{1, 0, 1}},
		{"heard of again", []impl.Act{act(0, 1, 0, 0, 0), act(1, 1, 1, 0, 0), act(2, 1, 1, 0, 0), act(0, 2, 1, 1, 1), act(1, 2, 2, 1, 1), act(0, 3, 2, 2, 1), act(2, 2, 3, 2, 1)}, 3, []int{2, 2, 1}},
	} {
		t.Run(c.what, func(t *testing.T) {
			checkSettled(t, c.l, c.n, c.want...)
			if !slices.Equal(plainSettled(c.l, c.n), c.want) {
				t.Fatal("the plain function settles other acts", plainSettled(c.l, c.n))
			}
		})
	}
}

// TestSettledAfterMeeting: what all have heard and then said so is settled, and
// nothing of what comes behind that.
func TestSettledAfterMeeting(t *testing.T) {
	for n := 2; n <= impl.MaxPlaces; n++ {
		for late := range n {
			d := newDiary(n)
			for number := range 3 * n {
				d.write(number%n, act(0, 1))
			}
			before := countsOf(d.list(), n)
			checkSettled(t, d.list(), n, make([]int, n)...)
			d.meetAll()
			for place := range n {
				if place != late {
					d.write(place, act(0, 1))
				}
			}
			// the late one has heard, and has not said so
			want := make([]int, n)
			want[late] = before[late]
			checkSettled(t, d.list(), n, want...)
			d.write(late, act(0, 1))
			checkSettled(t, d.list(), n, before...)
			for place := range n {
				if place != late {
					d.write(place, act(0, 1))
				}
			}
			checkSettled(t, d.list(), n, before...)
		}
	}
}

// TestTidyOfOnePlace: where one place is, all is settled.
func TestTidyOfOnePlace(t *testing.T) {
	one, two := toSet(1), toSet(2)
	put, out := toIns(7), toRem(7)
	for _, c := range []struct {
		what string
		acts []impl.Act
		left [][]impl.Up
	}{
		{"nothing", nil, nil},
		{"acts of other kinds", []impl.Act{gives(0, 1, 0, 15), limits(0, 0, 7), takesNumber(0, 1)}, none(3)},
		{"no ups", []impl.Act{does(0), does(0)}, none(2)},

		{"a counter", []impl.Act{does(0, toAdd(1))}, [][]impl.Up{left(toAdd(1))}},
		{"counters", []impl.Act{does(0, toAdd(1), toAdd(1)), does(0, toAdd(-2), toAdd(0))}, [][]impl.Up{left(toAdd(1), toAdd(1)), left(toAdd(-2), toAdd(0))}},

		{"one setting", []impl.Act{does(0, one)}, [][]impl.Up{left(one)}},
		{"a further one", []impl.Act{does(0, one), does(0, two)}, [][]impl.Up{nil, left(two)}},
		{"a further one in the same act", []impl.Act{does(0, one, two)}, [][]impl.Up{left(two)}},
		{"a further one of the same", []impl.Act{does(0, one), does(0, one, one)}, [][]impl.Up{nil, left(one)}},
		{"many", []impl.Act{does(0, one, two, one), does(0, two), does(0), does(0, one, one, two, one, two)}, [][]impl.Up{nil, nil, nil, left(two)}},
		{"a further one with more behind it", []impl.Act{does(0, one), does(0, two, toAdd(1)), does(0, toAdd(2))}, [][]impl.Up{nil, left(two, toAdd(1)), left(toAdd(2))}},

		{"one putting", []impl.Act{does(0, put)}, [][]impl.Up{left(put)}},
		{"twice", []impl.Act{does(0, put, put), does(0, put)}, [][]impl.Up{left(put, put), left(put)}},
		{"taken out by a later one", []impl.Act{does(0, put), does(0, out)}, none(2)},
		{"taken out in the same act", []impl.Act{does(0, put, out)}, none(1)},
		{"taken out ahead in the same act", []impl.Act{does(0, out, put)}, [][]impl.Up{left(put)}},
		{"taken out by an earlier one", []impl.Act{does(0, out), does(0, put)}, [][]impl.Up{nil, left(put)}},
		{"put, taken out, put in one", []impl.Act{does(0, put, out, put)}, [][]impl.Up{left(put)}},
		{"taken out, put, taken out in one", []impl.Act{does(0, out, put, out)}, none(1)},
		{"put again by a later one", []impl.Act{does(0, put), does(0, out), does(0, put)}, [][]impl.Up{nil, nil, left(put)}},
		{"put again, taken out again", []impl.Act{does(0, put), does(0, out, put), does(0, out)}, none(3)},
		{"put twice, taken out once", []impl.Act{does(0, put, put), does(0, put), does(0, out)}, none(3)},
		{"taken out twice", []impl.Act{does(0, put), does(0, out, out), does(0, out)}, none(3)},
		{"nothing was put", []impl.Act{does(0, out)}, none(1)},
		{"another value", []impl.Act{does(0, put, toIns(-7), toIns(0)), does(0, toRem(8), toRem(0))}, [][]impl.Up{left(put, toIns(-7)), nil}},
		{"much later", []impl.Act{does(0, put), gives(0, 1, 0, 15), does(0), does(0, out)}, none(4)},

		{"other kinds of the same value", []impl.Act{does(0, put, toAdd(7), toSet(7)), does(0, toAdd(7), toSet(7))}, [][]impl.Up{left(put, toAdd(7)), left(toAdd(7), toSet(7))}},
		{"taking out leaves other kinds", []impl.Act{does(0, toSet(7), toAdd(7)), does(0, out)}, [][]impl.Up{left(toSet(7), toAdd(7)), nil}},

		{"all five taken away", []impl.Act{does(0, one, put, one, out, out), does(0, two)}, [][]impl.Up{nil, left(two)}},
		{"none of five taken away", []impl.Act{does(0, one, put, toAdd(1), toIns(8), toAdd(2))}, [][]impl.Up{left(one, put, toAdd(1), toIns(8), toAdd(2))}},
		{"others stay in order", []impl.Act{does(0, toAdd(3), one, toIns(9), put, toAdd(1)), does(0, toIns(4), out, toIns(2), two, toIns(7))}, [][]impl.Up{left(toAdd(3), toIns(9), toAdd(1)), left(toIns(4), toIns(2), two, toIns(7))}},
		{"the ends", []impl.Act{does(0, toIns(math.MaxInt), toIns(math.MinInt), toSet(math.MinInt)), does(0, toRem(math.MinInt), toSet(math.MaxInt), toAdd(math.MinInt))}, [][]impl.Up{left(toIns(math.MaxInt)), left(toSet(math.MaxInt), toAdd(math.MinInt))}},
	} {
		t.Run(c.what, func(t *testing.T) { checkLeft(t, writeAll(c.acts...), 1, c.left...) })
	}
}

// TestTidyOfOtherThings: an up is taken away for what is done to its own thing.
func TestTidyOfOtherThings(t *testing.T) {
	for number := range impl.Buckets * impl.Keys {
		own := func(u impl.Up) impl.Up { return at(number/impl.Keys, number%impl.Keys, u) }
		l := writeAll(does(0, own(toSet(4)), own(toAdd(5)), own(toIns(6))), does(0, own(toRem(6)), own(toSet(5))))
		checkLeft(t, l, 1, left(own(toAdd(5))), left(own(toSet(5))))
		for another := range impl.Buckets * impl.Keys {
			if another == number {
				continue
			}
			other := func(u impl.Up) impl.Up { return at(another/impl.Keys, another%impl.Keys, u) }
			ups := left(own(toSet(4)), own(toIns(6)), other(toIns(6)), other(toSet(4)))
			l := writeAll(does(0, ups...), does(0, other(toRem(6)), other(toSet(8))))
			checkLeft(t, l, 1, left(own(toSet(4)), own(toIns(6))), left(other(toSet(8))))
			l = writeAll(does(0, own(toIns(6)), other(toRem(6)), own(toSet(1)), other(toSet(2))))
			checkLeft(t, l, 1, left(own(toIns(6)), own(toSet(1)), other(toSet(2))))
		}
	}
}

// TestTidyOfWhatDoesNotCount: nobody needs what does not count, and it takes
// nothing away.
func TestTidyOfWhatDoesNotCount(t *testing.T) {
	ups := left(toSet(1), toAdd(2), toIns(7), toRem(7), at(1, 0, toIns(7)))
	l := writeAll(does(1, ups...), does(5, ups...))
	checkLeft(t, l, 1, none(2)...)

	good := left(toSet(9), toIns(7), toAdd(3))
	l = writeAll(does(0, good...), does(1, toSet(4), toRem(7)), does(1, toAdd(3)))
	checkLeft(t, l, 1, good, nil, nil)
	l = writeAll(does(1, toSet(4), toRem(7)), does(0, good...))
	checkLeft(t, l, 1, nil, good)

	// one who has some of the rights that the ups need, but not all of them
	for _, mask := range []int{0, read, write, add, read + write, write + add, allRights} {
		l := writeAll(gives(0, 1, 0, mask), does(0, good...), does(1, toSet(4), toRem(7), toAdd(1)))
		if mask&(write+add) == write+add {
			checkLeft(t, l, 1, nil, left(toAdd(3)), left(toSet(4), toAdd(1)))
		} else {
			checkLeft(t, l, 1, nil, good, nil)
		}
	}
	// rights in one bucket alone: the ups of the other bucket are not told either
	l = writeAll(gives(0, 1, 0, write), does(0, good...), does(1, toSet(4), at(1, 0, toSet(4))), does(1, toSet(5)))
	checkLeft(t, l, 1, nil, left(toIns(7), toAdd(3)), nil, left(toSet(5)))

	// what was known when the right was taken back stays told
	l = writeAll(gives(0, 1, 0, write), does(1, toSet(4)), takesNumber(0, 1), does(1, toSet(5)))
	checkLeft(t, l, 1, nil, left(toSet(4)), nil, nil)
	l = writeAll(gives(0, 1, 0, write), does(1, toSet(4)), limits(0, 0, read), does(1, toSet(5)))
	checkLeft(t, l, 1, nil, left(toSet(4)), nil, nil)
}

// TestTidyOfWhatIsHidden has a right taken back beside what was written under
// it: that is hidden once it is settled, whether or not the taking back is.
func TestTidyOfWhatIsHidden(t *testing.T) {
	d := newDiary(2)
	d.write(0, gives(0, 1, 0, write))
	d.write(0, does(1, toIns(7), toSet(1)))
	d.hear(1, 0)
	d.write(0, does(1, toRem(7), toSet(2)))
	d.write(1, takesNumber(0, 1))
	l := d.list()
	checkSettled(t, l, 2, 2, 0)
	checkLeft(t, l, 2, nil, left(toIns(7), toSet(1)), left(toRem(7), toSet(2)), nil)
	d.hear(1, 0)
	d.write(1, does(0, toAdd(1)))
	l = d.list()
	checkSettled(t, l, 2, 3, 0) // place 0 knows nothing of the taking back
	checkLeft(t, l, 2, nil, left(toIns(7), toSet(1)), nil, nil, left(toAdd(1)))
	d.hear(0, 1)
	d.write(0, does(1, toRem(7), toSet(3)))
	l = d.list()
	checkSettled(t, l, 2, 3, 2)
	checkLeft(t, l, 2, nil, left(toIns(7), toSet(1)), nil, nil, left(toAdd(1)), left(toRem(7), toSet(3)))
	d.settle()
	checkLeft(t, d.list(), 2, nil, left(toIns(7), toSet(1)), nil, nil, left(toAdd(1)), nil, nil, nil)
}

// TestTidyUpToSettled has one place know of each number of another's acts: the
// last one that is settled has N of Settled[R], and the next one is not.
func TestTidyUpToSettled(t *testing.T) {
	const count = 6
	for n := 2; n <= impl.MaxPlaces; n++ {
		for settled := range count + 1 {
			d := newDiary(n)
			var want [][]impl.Up
			for number := 1; number <= count; number++ {
				ups := left(toSet(number), toIns(number), toAdd(number), toRem(number-1), toRem(number))
				d.write(0, does(0, ups...))
				if number == settled {
					for place := 1; place < n; place++ {
						d.hear(place, 0)
					}
				}
				switch {
				case number < settled:
					ups = left(toAdd(number))
				case number == settled:
					ups = left(toSet(number), toAdd(number))
				}
				want = append(want, ups)
			}
			for place := 1; place < n; place++ {
				a := d.write(place, does(0, at(1, 0, toSet(place)), at(1, 0, toRem(4))))
				want = append(want, a.Ups) // of which place 0 has not heard
			}
			v := make([]int, n)
			v[0] = settled
			l := d.acts
			order := inOrder(l)
			checkSettled(t, order, n, v...)
			var inPlace [][]impl.Up
			for _, a := range order {
				inPlace = append(inPlace, want[plainFind(l, a.R, a.N)])
			}
			checkLeft(t, order, n, inPlace...)
		}
	}
}

// TestTidyOfSettings: a setting is needed as long as no further one is settled.
func TestTidyOfSettings(t *testing.T) {
	d := newDiary(2)
	d.write(0, does(0, toSet(1)))
	d.hear(1, 0)
	d.write(1, does(0, toSet(2)))
	checkLeft(t, d.list(), 2, left(toSet(1)), left(toSet(2))) // the further one is not settled
	d.hear(0, 1)
	d.write(0, does(0, toAdd(3)))
	checkLeft(t, d.list(), 2, nil, left(toSet(2)), left(toAdd(3)))
	d.write(0, does(0, toSet(4)))
	d.write(0, does(0, toSet(5)))
	checkLeft(t, d.list(), 2, nil, left(toSet(2)), left(toAdd(3)), left(toSet(4)), left(toSet(5)))
	d.hear(1, 0)
	d.write(1, does(0))
	checkLeft(t, d.list(), 2, nil, nil, left(toAdd(3)), nil, left(toSet(5)), nil)

	// beside each other: the one that stands behind the other is needed, and
	// does not have to know of that
	for first := range 2 {
		d := newDiary(2)
		d.write(first, does(0, toSet(first)))
		d.write(1-first, does(0, toSet(1-first)))
		d.settle()
		checkLeft(t, d.list(), 2, nil, left(toSet(1)), nil, nil)
	}
	// the longer place is further behind
	d = newDiary(2)
	d.write(1, does(0, toSet(1)))
	d.write(0, does(0, toSet(2)))
	d.write(0, does(0, toSet(3)))
	d.settle()
	checkLeft(t, d.list(), 2, nil, nil, left(toSet(3)), nil, nil)

	// a further one that does not count is none, settled or not
	d = newDiary(2)
	d.write(0, does(0, toSet(1)))
	d.write(0, does(1, toSet(2)))
	d.hear(1, 0)
	d.write(1, does(1, toSet(3)))
	checkSettled(t, d.list(), 2, 2, 0)
	checkLeft(t, d.list(), 2, left(toSet(1)), nil, left(toSet(3)))
}

// TestTidyOfPuttings: a putting is needed as long as no taking out that takes it
// away is settled; a taking out, as long as it is not settled itself.
func TestTidyOfPuttings(t *testing.T) {
	d := newDiary(2)
	d.write(0, does(0, toIns(7)))
	d.hear(1, 0)
	d.write(1, does(0, toRem(7)))
	checkLeft(t, d.list(), 2, left(toIns(7)), left(toRem(7))) // that is not settled
	d.hear(0, 1)
	d.write(0, does(0))
	checkLeft(t, d.list(), 2, none(3)...)

	// a taking out that does not know of it, behind it or ahead of it
	for first := range 2 {
		d := newDiary(2)
		d.write(first, does(0, toIns(7)))
		d.write(1-first, does(0, toRem(7)))
		count := d.settle()
		want := none(count + 2)
		want[first] = left(toIns(7))
		checkLeft(t, d.list(), 2, want...)
	}
	// two puttings, of which it knows one
	d = newDiary(2)
	d.write(0, does(0, toIns(7)))
	d.hear(1, 0)
	d.write(0, does(0, toIns(7), toIns(8)))
	d.write(1, does(0, toRem(7)))
	d.settle()
	checkLeft(t, d.list(), 2, nil, left(toIns(7), toIns(8)), nil, nil, nil)

	// one that does not count, settled or not
	d = newDiary(2)
	d.write(0, does(0, toIns(7)))
	d.write(0, does(1, toRem(7)))
	d.hear(1, 0)
	d.write(1, does(1, toRem(7)))
	checkSettled(t, d.list(), 2, 2, 0)
	checkLeft(t, d.list(), 2, left(toIns(7)), nil, left(toRem(7)))

	// in the same act, which is not settled
	d = newDiary(2)
	d.write(1, does(0))
	d.write(0, does(0, toIns(7), toRem(7), toRem(7), toSet(1), toSet(2)))
	checkLeft(t, d.list(), 2, left(toIns(7), toRem(7), toRem(7), toSet(1), toSet(2)), nil)

	// a later one that nobody has heard of does not keep what is settled
	d = newDiary(2)
	d.write(0, does(0, toIns(7)))
	d.write(0, does(0, toRem(7)))
	d.settle()
	d.write(0, does(0, toIns(7), toRem(7)))
	checkLeft(t, d.list(), 2, nil, nil, nil, nil, left(toIns(7), toRem(7)))
}

// TestTidyOfASilentPlace: as long as one place has written nothing, or is not
// heard of again, what it may not know is needed.
func TestTidyOfASilentPlace(t *testing.T) {
	for n := 2; n <= impl.MaxPlaces; n++ {
		for silent := range n {
			d := newDiary(n)
			speak := func(val int) {
				d.meetAll()
				for place := range n {
					if place != silent {
						d.write(place, does(0, toSet(val), toIns(val), toRem(val-1)))
					}
				}
			}
			speak(1)
			speak(2)
			l := d.list()
			checkSettled(t, l, n, make([]int, n)...)
			checkTidied(t, l, n, l)
			d.meetAll()
			d.write(silent, does(0))
			checkTidied(t, d.list(), n, plainTidy(d.list(), n))
			speak(3)
			speak(4)
			l = d.list()
			want := countsOf(l, n)
			for place := range want {
				want[place] = min(want[place], 2)
			}
			want[silent] = 1
			checkSettled(t, l, n, want...)
			tidied := impl.Tidy(l, n)
			for k, a := range tidied {
				if a.N > want[a.R] && len(a.Ups) != 3 {
					t.Fatal("not settled, and yet tidied", l, k)
				}
			}
			checkTidied(t, l, n, plainTidy(l, n))
		}
	}
}

// TestTidyOfMaxActs has as many ups as there can be.
func TestTidyOfMaxActs(t *testing.T) {
	needed := left(toAdd(1), at(1, 1, toAdd(2)), toIns(3), at(2, 3, toIns(4)), toAdd(-5))
	needless := left(toSet(1), toIns(9), toRem(9), toSet(2), toRem(8))
	for n := 1; n <= impl.MaxPlaces; n++ {
		for _, ups := range [][]impl.Up{needed, needless} {
			d := newDiary(n)
			for number := range impl.MaxActs - 2*n {
				d.write(number%n, does(0, ups...))
			}
			d.write(n-1, does(0, toSet(5)))
			for len(d.acts) < impl.MaxActs-n {
				d.meetAll()
				d.write(n-1, does(0, toSet(5)))
			}
			d.settle()
			l := d.list()
			inTime(t, func() {
				want := plainTidy(l, n)
				checkTidied(t, l, n, want)
				old, told := plainOld(l, n)
				for k, a := range l {
					wantLeft := len(a.Ups)
					if old[k] && told[k] && len(a.Ups) == impl.MaxUps && ups[0] == needless[0] {
						wantLeft = 0
					}
					if len(a.Ups) == impl.MaxUps && len(want[k].Ups) != wantLeft {
						t.Fatal("left of", a, "is", want[k].Ups)
					}
				}
			})
			more := append(slices.Clone(l), nextOf(l, n, 0, does(0)))
			checkUntidied(t, more, n)
		}
	}
	// one place that has written all there is, with another place that knows it or not
	all := make([]impl.Act, impl.MaxActs-1)
	for k := range all {
		all[k] = does(0, needless...)
	}
	for _, known := range []int{0, 1, 30, len(all)} {
		d := newDiary(2)
		for k, a := range all {
			if k == known {
				d.hear(1, 0)
			}
			d.write(0, a)
		}
		if known == len(all) {
			d.hear(1, 0)
		}
		d.write(1, does(0))
		l := d.list()
		checkSettled(t, l, 2, known, 0)
		want := copyActs(l)
		for k, a := range l {
			switch {
			case a.R == 0 && a.N == known:
				want[k].Ups = left(toSet(2))
			case a.R == 0 && a.N < known:
				want[k].Ups = nil
			}
		}
		checkTidied(t, l, 2, want)
	}
}

func TestTidyOfNoSet(t *testing.T) {
	d := newDiary(3)
	d.write(0, gives(0, 1, 0, write))
	d.write(1, does(0, toSet(1), toSet(2)))
	d.hear(2, 0)
	d.write(2, does(1, toIns(7), toRem(7)))
	d.meetAll()
	d.write(0, does(0, toSet(3), toIns(7)))
	d.write(1, does(0, toSet(3), toIns(7)))
	d.write(2, limits(0, 0, read))
	l := d.list()
	checkTidied(t, l, 3, plainTidy(l, 3))
	for _, n := range []int{math.MinInt, -1, 0, 1, 2, 4, 5, math.MaxInt} {
		checkUntidied(t, l, n)
		checkUntidied(t, chain(0, 5, 3), n)
	}
	for _, n := range []int{math.MinInt, -1, 0, 5, math.MaxInt} {
		checkUntidied(t, nil, n)
		checkUntidied(t, []impl.Act{}, n)
	}
	for count := range 6 {
		dep := make([]int, count)
		checkUntidied(t, []impl.Act{{R: count, N: 1, Dep: dep, Kind: impl.KdTxn}}, count)
	}
	refused := 0
	for _, m := range spoiled(l) {
		if plainSetOk(m, 3) {
			checkSettled(t, m, 3, plainSettled(m, 3)...)
			checkTidied(t, m, 3, plainTidy(m, 3))
			continue
		}
		refused++
		checkUntidied(t, m, 3)
	}
	if refused < 50 {
		t.Fatal("this says little", refused)
	}
	for n := 1; n <= impl.MaxPlaces; n++ {
		checkUntidied(t, chain(n-1, impl.MaxActs+1, n), n)
		checkUntidied(t, chain(n-1, 300, n), n)
	}
	tooMany := writeAll(does(0, make([]impl.Up, impl.MaxUps+1)...))
	checkUntidied(t, tooMany, 1)
	checkUntidied(t, writeAll(does(0, toSet(1), impl.Up{Kind: 5})), 1)
	checkUntidied(t, writeAll(does(0, toSet(1), at(3, 0, toSet(1)))), 1)
	checkUntidied(t, writeAll(does(0, toSet(1), at(0, -1, toSet(1)))), 1)
	checkUntidied(t, writeAll(does(6, toSet(1))), 1)
}

// TestUpCount counts ups of any acts.
func TestUpCount(t *testing.T) {
	some := func(count int) []impl.Up { return make([]impl.Up, count) }
	for _, c := range []struct {
		l    []impl.Act
		want int
	}{
		{nil, 0},
		{[]impl.Act{}, 0},
		{[]impl.Act{{}, {}}, 0},
		{writeAll(does(0, toSet(1))), 1},
		{writeAll(gives(0, 1, 0, 15), does(0, toSet(1), toAdd(2)), does(0), does(5, toRem(1))), 3},
		{writeAll(does(0, some(impl.MaxUps)...), does(0, some(impl.MaxUps)...)), 10},
		{[]impl.Act{{Ups: some(7)}, {Kind: 9, Ups: some(1)}, {R: -1, N: -1, Dep: []int{-1}, Ups: some(3)}}, 11},
		{[]impl.Act{{Kind: impl.KdGrant, Ups: some(2)}, {Kind: impl.KdRevoke, Ups: some(2)}, {Kind: impl.KdCeil, Ups: some(2)}}, 6},
		{[]impl.Act{{R: math.MaxInt, N: math.MinInt, Ups: some(1000)}, {Ups: some(1)}}, 1001},
	} {
		checkUpCount(t, c.l, c.want)
		checkUpCount(t, append(slices.Clone(c.l), c.l...), 2*c.want)
	}
	var many []impl.Act
	for k := range 350 {
		many = append(many, does(0, some(k%7)...)) // 21 ups in seven acts
	}
	checkUpCount(t, many, 50*21)
}

// tidyStory gives what places wrote that met often enough to have much settled:
// mostly ups of few things and few values, by the keeper and by others who have
// a right at first; now and then a right is taken back, or given anew.
func tidyStory(rnd *rand.Rand, places, count int) *diary {
	d := newDiary(places)
	for k := range min(3, count) {
		d.write(0, gives(0, 1+k%2, k/2, write+add))
	}
	d.meetAll()
	for len(d.acts) < count {
		place := rnd.IntN(places)
		if rnd.IntN(2) == 0 {
			d.hear(place, rnd.IntN(places))
		}
		d.write(place, d.randomDeed(rnd, place))
	}
	return d
}

// randomDeed is mostly a transaction.
func (d *diary) randomDeed(rnd *rand.Rand, place int) impl.Act {
	if rnd.IntN(9) == 0 {
		return d.randomAct(rnd, place)
	}
	var ups []impl.Up
	for range 1 + rnd.IntN(impl.MaxUps) {
		u := impl.Up{Kind: 1 + rnd.IntN(4), Val: rnd.IntN(3) - 1}
		ups = append(ups, at(rnd.IntN(6)/5, rnd.IntN(6)/5, u))
	}
	return does(rnd.IntN(3), ups...)
}

func TestTidyAgainstThePlainOne(t *testing.T) {
	rnd := rand.New(rand.NewPCG(9, 43))
	gone, stays, hidden := map[int]int{}, map[int]int{}, 0
	for turn := range 200 {
		n := 1 + turn%impl.MaxPlaces
		l := tidyStory(rnd, n, turn%40).list()
		settled := plainSettled(l, n)
		checkSettled(t, l, n, settled...)
		checkTidied(t, l, n, plainTidy(l, n))
		old, told := plainOld(l, n)
		for k, a := range l {
			for i, u := range a.Ups {
				switch {
				case !old[k]:
				case !told[k]:
					hidden++
				case plainNeedless(l, told, k, i):
					gone[u.Kind]++
				default:
					stays[u.Kind]++
				}
			}
		}
	}
	if hidden < 200 || gone[impl.UpSet] < 200 || gone[impl.UpIns] < 200 || gone[impl.UpRem] < 200 || gone[impl.UpAdd] > 0 {
		t.Fatal("this says little", hidden, gone)
	}
	if stays[impl.UpSet] < 100 || stays[impl.UpIns] < 200 || stays[impl.UpAdd] < 200 || stays[impl.UpRem] > 0 {
		t.Fatal("this says little", stays)
	}
}

// laterActs gives what may come next at that place, by one who knows so much:
// each up of a thing, and what changes the rights of others.
func laterActs(rnd *rand.Rand, l []impl.Act) []impl.Act {
	acts := []impl.Act{gives(0, 1, 0, rnd.IntN(16)), gives(0, 2, 0, allRights), limits(0, 0, rnd.IntN(16)), limits(0, 1, read), limits(0, 0, allRights)}
	for kind := impl.UpSet; kind <= impl.UpRem; kind++ {
		for val := -2; val <= 1; val++ {
			acts = append(acts, does(rnd.IntN(3), impl.Up{Kind: kind, Val: val}))
		}
	}
	acts = append(acts, does(0, toRem(-1), toRem(0), toRem(1)), does(1, at(1, 1, toRem(0)), at(1, 1, toSet(8))))
	for _, g := range l {
		if g.Kind == impl.KdGrant {
			acts = append(acts, takes(0, g))
		}
	}
	return acts
}

// checkLater puts the act into what is tidied and what is not: both take it or
// refuse it, and tell the same then. It says whether it was taken, and whether
// anything is told otherwise than ahead of it.
func checkLater(t *testing.T, l, tidied []impl.Act, n int, a impl.Act) (taken, changes bool) {
	t.Helper()
	more, ok := impl.AddAct(l, n, a)
	less, lessOk := impl.AddAct(tidied, n, a)
	things := impl.Things(more, n)
	if ok != lessOk || !impl.SameThings(things, impl.Things(less, n)) || !slices.EqualFunc(things, plainThings(less, n), plainSameThing) {
		t.Fatalf("%+v tells other things once it is tidied, and %+v is put in", l, a)
	}
	if ok && !impl.SameThings(things, impl.Things(impl.Tidy(less, n), n)) {
		t.Fatalf("%+v tells other things once it is tidied, %+v is put in, and it is tidied again", l, a)
	}
	return ok, ok && !impl.SameThings(things, impl.Things(l, n))
}

// TestPromise9OneMore: whatever comes next, be it from one who knows all or from
// one who has heard of nothing since, what was tidied tells the same.
func TestPromise9OneMore(t *testing.T) {
	rnd := rand.New(rand.NewPCG(9, 1))
	kinds, changing, gone := map[int]int{}, map[int]int{}, 0
	for turn := range 40 {
		n := 1 + turn%impl.MaxPlaces
		l := tidyStory(rnd, n, 6+turn%25).list()
		tidied := impl.Tidy(l, n)
		gone += impl.UpCount(l) - impl.UpCount(tidied)
		for _, a := range laterActs(rnd, l) {
			place := rnd.IntN(n)
			for _, next := range []impl.Act{nextOf(l, n, place, a), nextAlone(l, n, place, a)} {
				taken, changes := checkLater(t, l, tidied, n, next)
				if taken {
					kinds[a.Kind]++
				}
				if changes {
					changing[a.Kind]++
				}
			}
		}
	}
	if gone < 400 || min(kinds[impl.KdGrant], kinds[impl.KdRevoke], kinds[impl.KdCeil], kinds[impl.KdTxn]) < 100 {
		t.Fatal("this says little", gone, kinds)
	}
	if min(changing[impl.KdRevoke], changing[impl.KdCeil]) < 20 || changing[impl.KdTxn] < 300 {
		t.Fatal("this says little", changing)
	}
}

// TestPromise9ManyMore: and so on, act by act, with the one tidied once, another
// one tidied again and again, and one never.
func TestPromise9ManyMore(t *testing.T) {
	rnd := rand.New(rand.NewPCG(9, 2))
	gone := 0
	for turn := range 60 {
		n := 1 + turn%impl.MaxPlaces
		d := tidyStory(rnd, n, 5+turn%20)
		never := d.list()
		once := impl.Tidy(never, n)
		often := once
		for range 12 {
			place := rnd.IntN(n)
			if rnd.IntN(2) == 0 {
				d.hear(place, rnd.IntN(n))
			}
			a := d.write(place, d.randomDeed(rnd, place))
			lists := []*[]impl.Act{&never, &once, &often}
			for _, l := range lists {
				more, ok := impl.AddAct(*l, n, a)
				if !ok {
					t.Fatal("not taken", *l, a)
				}
				*l = more
			}
			often = impl.Tidy(often, n)
			things := impl.Things(never, n)
			if !impl.SameThings(things, impl.Things(once, n)) || !impl.SameThings(things, impl.Things(often, n)) {
				t.Fatalf("%+v, tidied, tells other things", never)
			}
		}
		gone += impl.UpCount(once) - impl.UpCount(often)
		// what was tidied in between is what is tidied at the end alone
		if !sameActs(often, impl.Tidy(never, n)) || !sameActs(often, impl.Tidy(once, n)) {
			t.Fatalf("tidied in between, %+v is %+v", never, often)
		}
	}
	if gone < 300 {
		t.Fatal("this says little", gone)
	}
}

// tidyPlaces are places that write apart, meet, and tidy what they know, each as
// it likes; all acts are taken down as they were written.
type tidyPlaces struct {
	t     *testing.T
	n     int
	known [][]impl.Act
	d     *diary
}

func newTidyPlaces(t *testing.T, d *diary) *tidyPlaces {
	w := &tidyPlaces{t: t, n: len(d.known), d: d}
	d.meetAll()
	for range w.n {
		w.known = append(w.known, d.list())
	}
	return w
}

func (w *tidyPlaces) write(place int, a impl.Act) {
	w.t.Helper()
	more, ok := impl.AddAct(w.known[place], w.n, w.d.write(place, a))
	if !ok {
		w.t.Fatal("not taken", w.known[place], a)
	}
	w.known[place] = more
}

// hear lets a place hear what it lacks from another one. What is tidied is not
// lacked by anybody: all of that comes as it was written.
func (w *tidyPlaces) hear(place, other int) {
	w.t.Helper()
	w.d.hear(place, other)
	for _, a := range impl.Lacks(w.known[other], w.n, impl.ClockOf(w.known[place], w.n)) {
		if k := plainFind(w.d.acts, a.R, a.N); !impl.SameAct(a, w.d.acts[k]) {
			w.t.Fatal("tidied, and yet another place lacks it", w.d.acts[k], w.known[other])
		}
		more, ok := impl.AddAct(w.known[place], w.n, a)
		if !ok {
			w.t.Fatal("not taken", w.known[place], a)
		}
		w.known[place] = more
	}
}

func (w *tidyPlaces) tidy(place int) int {
	before := impl.UpCount(w.known[place])
	w.known[place] = impl.Tidy(w.known[place], w.n)
	return before - impl.UpCount(w.known[place])
}

// check holds what each place tells against what is told of the same acts as
// they were written, and what is settled for it against what all places know.
func (w *tidyPlaces) check() {
	w.t.Helper()
	for place, l := range w.known {
		part, _ := plainCut(w.d.list(), w.n, w.d.known[place])
		if !slices.EqualFunc(impl.Things(l, w.n), plainThings(part, w.n), plainSameThing) {
			w.t.Fatalf("place %d tells other things: %+v, was %+v", place, l, part)
		}
		for _, known := range w.d.known {
			if !impl.ClockLeq(impl.Settled(l, w.n), known) {
				w.t.Fatal("settled, and yet a place does not know of it", l, known)
			}
		}
	}
}

// TestPromise9Apart: places that go on apart and are brought together tell the
// same, whoever has tidied and when.
func TestPromise9Apart(t *testing.T) {
	rnd := rand.New(rand.NewPCG(9, 3))
	gone, unlike := 0, 0
	for turn := range 60 {
		n := 2 + turn%(impl.MaxPlaces-1)
		w := newTidyPlaces(t, tidyStory(rnd, n, 5+turn%15))
		for range 40 {
			place := rnd.IntN(n)
			switch event := rnd.IntN(9); {
			case event < 4 && len(w.d.acts) < impl.MaxActs:
				w.write(place, w.d.randomDeed(rnd, place))
			case event < 7:
				w.hear(place, rnd.IntN(n))
			default:
				gone += w.tidy(place)
			}
		}
		w.check()
		for range 2 {
			for place := range n {
				w.hear(place, (place+1)%n)
				w.hear((place+1)%n, place)
			}
		}
		w.check()
		first := impl.Things(w.known[0], n)
		for place := range n {
			if !slices.Equal(impl.ClockOf(w.known[place], n), impl.ClockOf(w.known[0], n)) || !impl.SameThings(impl.Things(w.known[place], n), first) {
				t.Fatal("they have met, and tell other things", w.known[place], w.known[0])
			}
			if !sameActs(w.known[place], w.known[0]) {
				unlike++
			}
		}
		for place := range n {
			w.tidy(place)
			if !sameActs(w.known[place], w.known[0]) {
				t.Fatal("they have met and tidied, and know other acts", w.known[place], w.known[0])
			}
		}
		w.check()
	}
	if gone < 500 || unlike < 30 {
		t.Fatal("this says little", gone, unlike)
	}
}

// TestPromise9TwoApart has two places of which one has tidied, each writing what
// the other does not know, of all kinds, and hearing of it then.
func TestPromise9TwoApart(t *testing.T) {
	put, out := toIns(7), toRem(7)
	there := [][]impl.Act{
		{does(0, put)}, {does(0, out)}, {does(1, put, out)}, {does(1, out, put)}, {does(0, toSet(1))}, {does(1, toSet(2))},
		{does(0, toAdd(3))}, {gives(0, 2, 0, write+add)}, {gives(1, 2, 0, write)}, {takesNumber(0, 1)}, {limits(0, 0, read)}, {limits(0, 0, write)},
		{takesNumber(0, 1), does(0, out)}, {limits(0, 0, read), limits(0, 0, allRights)}, {does(1, out), does(1, put)}, {gives(0, 2, 0, write), does(2, out, toSet(5))},
	}
	for _, here := range there {
		for _, away := range there {
			d := newDiary(2)
			d.write(0, gives(0, 1, 0, allRights))
			d.write(0, does(1, toSet(8), put, toAdd(1)))
			d.hear(1, 0)
			d.write(1, does(1, toSet(9), toIns(6), out, put, toRem(6)))
			d.write(0, does(1, put, toSet(4)))
			d.settle()
			w := newTidyPlaces(t, d)
			if w.tidy(0) < 5 {
				t.Fatal("this says little")
			}
			for _, a := range here {
				w.write(0, a)
			}
			for _, a := range away {
				w.write(1, a)
			}
			w.check()
			w.hear(1, 0)
			w.hear(0, 1)
			w.check()
			w.tidy(1)
			w.write(1, does(0))
			w.hear(0, 1)
			w.tidy(0)
			w.check()
		}
	}
}
