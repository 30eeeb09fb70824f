package tests

import (
	"math"
	"slices"
	"testing"

	"loop.example/g00717/impl"
)

const top = impl.MaxCount

func TestClockLimits(t *testing.T) {
	if impl.MaxPlaces != 4 || impl.MaxCount != 100000 {
		t.Fatal(impl.MaxPlaces, impl.MaxCount)
	}
}

func TestClockOkBySize(t *testing.T) {
	if impl.ClockOk(nil) || impl.ClockOk([]int{}) {
		t.Fatal("no places")
	}
	for places := 1; places <= impl.MaxPlaces; places++ {
		if v := make([]int, places); !impl.ClockOk(v) || impl.ClockSum(v) != 0 {
			t.Fatal(v)
		}
	}
	for _, places := range []int{impl.MaxPlaces + 1, impl.MaxPlaces + 2, 1000} {
		if v := make([]int, places); impl.ClockOk(v) || impl.ClockSum(v) != -1 {
			t.Fatal(v)
		}
	}
}

func TestClockOkByCount(t *testing.T) {
	for places := 1; places <= impl.MaxPlaces; places++ {
		for at := range places {
			v := make([]int, places)
			for _, count := range []int{0, 1, top - 1, top} {
				if v[at] = count; !impl.ClockOk(v) || impl.ClockSum(v) != count {
					t.Fatal(v)
				}
			}
			for _, count := range []int{-1, top + 1, math.MinInt, math.MaxInt} {
				if v[at] = count; impl.ClockOk(v) || impl.ClockSum(v) != -1 {
					t.Fatal(v)
				}
			}
		}
	}
}

func TestClockSum(t *testing.T) {
	for _, c := range []struct {
		v    []int
		want int
	}{
		{[]int{7}, 7},
		{[]int{1, 5, 0}, 6},
		{[]int{1, 20, 300, 4000}, 4321},
		{[]int{top, top, top, top}, 4 * top},
		{[]int{top, top, top, top + 1}, -1},
		{[]int{5, -5}, -1},
		{[]int{1, 1, 1, 1, 1}, -1},
		{nil, -1},
	} {
		if got := impl.ClockSum(c.v); got != c.want {
			t.Fatal(c.v, got, c.want)
		}
	}
}

// clockPair is a pair of arguments with the answers that are written out for it.
type clockPair struct {
	a, b                []int
	greater, lesser     []int
	aLeqB, bLeqA, apart bool
}

var clockPairs = []clockPair{
	{[]int{0}, []int{0}, []int{0}, []int{0}, true, true, false},
	{[]int{3}, []int{4}, []int{4}, []int{3}, true, false, false},
	{[]int{top}, []int{0}, []int{top}, []int{0}, false, true, false},
	{[]int{top}, []int{top}, []int{top}, []int{top}, true, true, false},
	{[]int{1, 5, 0}, []int{2, 3, 0}, []int{2, 5, 0}, []int{1, 3, 0}, false, false, true},
	{[]int{1, 0}, []int{0, 1}, []int{1, 1}, []int{0, 0}, false, false, true},
	{[]int{1, 2, 3}, []int{1, 2, 4}, []int{1, 2, 4}, []int{1, 2, 3}, true, false, false},
	{[]int{2, 2, 3}, []int{1, 2, 3}, []int{2, 2, 3}, []int{1, 2, 3}, false, true, false},
	{[]int{0, 0, 0, 0}, []int{top, top, top, top}, []int{top, top, top, top}, []int{0, 0, 0, 0}, true, false, false},
	{[]int{9, 8, 7, 6}, []int{6, 7, 8, 9}, []int{9, 8, 8, 9}, []int{6, 7, 7, 6}, false, false, true},
	{[]int{1, 1, 1, 2}, []int{1, 1, 1, 1}, []int{1, 1, 1, 2}, []int{1, 1, 1, 1}, false, true, false},
	{[]int{top, 0, 0, top - 1}, []int{top - 1, 0, 0, top}, []int{top, 0, 0, top}, []int{top - 1, 0, 0, top - 1}, false, false, true},
}

// unlikeClocks are pairs that are not clocks for as many places; all functions refuse them.
var unlikeClocks = [][2][]int{
	{nil, nil},
	{nil, {}},
	{{}, {}},
	{nil, {0}},
	{{}, {1, 2}},
	{{0}, {0, 0}},
	{{1}, {1, 0}},
	{{5}, {1, 5, 0}},
	{{1, 2}, {1, 2, 0}},
	{{0, 3}, {2, 0, 0}},
	{{1, 2, 3}, {1, 2, 3, 4}},
	{{0, 0, 0, 0}, {0, 0, 0, 0, 0}},
	{{0, 0, 0, 0, 0}, {0, 0, 0, 0, 0}},
	{{1, 0, 0, 0, 0}, {0, 1, 0, 0, 0}},
	{{-1}, {-1}},
	{{-1}, {0}},
	{{0, -1}, {1, 0}},
	{{top + 1}, {top + 1}},
	{{top}, {top + 1}},
	{{0, 0, 0, top + 1}, {0, 0, 0, 0}},
	{{top + 1, 0}, {0, top + 1}},
	{{math.MinInt, 0}, {0, 0}},
	{{math.MaxInt, 0}, {0, 0}},
}

func (p clockPair) turned() clockPair {
	return clockPair{p.b, p.a, p.greater, p.lesser, p.bLeqA, p.aLeqB, p.apart}
}

// check asks all functions of two clocks, and looks after the memory of the arguments.
func (p clockPair) check(t *testing.T) {
	t.Helper()
	a, b := guardInts(p.a), guardInts(p.b)
	if got := impl.ClockLeq(a.list, b.list); got != p.aLeqB {
		t.Fatalf("ClockLeq(%v, %v): %v", p.a, p.b, got)
	}
	if got := impl.Beside(a.list, b.list); got != p.apart {
		t.Fatalf("Beside(%v, %v): %v", p.a, p.b, got)
	}
	if got := impl.ClockMax(a.list, b.list); !slices.Equal(got, p.greater) {
		t.Fatalf("ClockMax(%v, %v): %v", p.a, p.b, got)
	}
	if got := impl.ClockMin(a.list, b.list); !slices.Equal(got, p.lesser) {
		t.Fatalf("ClockMin(%v, %v): %v", p.a, p.b, got)
	}
	a.check(t, "first clock")
	b.check(t, "second clock")
}

func TestClockPairs(t *testing.T) {
	for _, p := range clockPairs {
		p.check(t)
		p.turned().check(t)
	}
}

func TestUnlikeClocks(t *testing.T) {
	for _, u := range unlikeClocks {
		p := clockPair{a: u[0], b: u[1]}
		p.check(t)
		p.turned().check(t)
	}
}

// listsOf gives all lists of that length whose numbers are among counts.
func listsOf(length int, counts []int) [][]int {
	lists := [][]int{nil}
	for range length {
		var longer [][]int
		for _, l := range lists {
			for _, count := range counts {
				longer = append(longer, append(slices.Clone(l), count))
			}
		}
		lists = longer
	}
	return lists
}

// manyLists has clocks of each size, and lists that miss being one by a little.
func manyLists() [][]int {
	lists := [][]int{nil, {}}
	lists = append(lists, listsOf(1, []int{math.MinInt, -1, 0, 1, top - 1, top, top + 1, math.MaxInt})...)
	lists = append(lists, listsOf(2, []int{-1, 0, 1, 2, top, top + 1})...)
	lists = append(lists, listsOf(3, []int{-1, 0, 1, top, top + 1})...)
	lists = append(lists, listsOf(4, []int{0, 1, top})...)
	lists = append(lists, []int{0, 0, 0, -1}, []int{top + 1, 0, 0, 0})
	lists = append(lists, listsOf(5, []int{0, 1})...)
	return lists
}

// plainClock says once more, word by word, what the document calls a clock.
func plainClock(v []int) bool {
	outside := func(count int) bool { return count < 0 || count > top }
	return len(v) >= 1 && len(v) <= 4 && !slices.ContainsFunc(v, outside)
}

func plainPair(a, b []int) clockPair {
	p := clockPair{a: a, b: b}
	if !plainClock(a) || !plainClock(b) || len(a) != len(b) {
		return p
	}
	p.aLeqB, p.bLeqA = true, true
	for i := range a {
		if a[i] > b[i] {
			p.aLeqB = false
			p.greater, p.lesser = append(p.greater, a[i]), append(p.lesser, b[i])
		} else {
			p.bLeqA = p.bLeqA && a[i] == b[i]
			p.greater, p.lesser = append(p.greater, b[i]), append(p.lesser, a[i])
		}
	}
	p.apart = !p.aLeqB && !p.bLeqA
	return p
}

func TestAllPairsOfManyLists(t *testing.T) {
	lists := manyLists()
	for _, a := range lists {
		g := guardInts(a)
		want := -1
		if plainClock(a) {
			want = 0
			for _, count := range a {
				want += count
			}
		}
		if impl.ClockOk(g.list) != plainClock(a) || impl.ClockSum(g.list) != want {
			t.Fatal(a)
		}
		g.check(t, "one clock")
		for _, b := range lists {
			plainPair(a, b).check(t)
		}
	}
}

// TestPromise1Order: clocks are the same, one behind the other, or beside each other.
func TestPromise1Order(t *testing.T) {
	for places := 1; places <= impl.MaxPlaces; places++ {
		clocks := listsOf(places, []int{0, 1, top})
		for _, a := range clocks {
			for _, b := range clocks {
				same := slices.Equal(a, b)
				aBehind := impl.ClockLeq(a, b) && !same
				bBehind := impl.ClockLeq(b, a) && !same
				ways := 0
				for _, is := range []bool{same, aBehind, bBehind, impl.Beside(a, b)} {
					if is {
						ways++
					}
				}
				if ways != 1 || same && !impl.ClockLeq(a, b) {
					t.Fatal(a, b, same, aBehind, bBehind, impl.Beside(a, b))
				}
			}
		}
	}
}

// TestPromise1Knowledge: what either knows has both and no more than it must;
// what both know neither has more of, and it has all that it may.
func TestPromise1Knowledge(t *testing.T) {
	clocks := listsOf(3, []int{0, 1, top})
	for _, a := range clocks {
		for _, b := range clocks {
			either, both := impl.ClockMax(a, b), impl.ClockMin(a, b)
			if !impl.ClockLeq(a, either) || !impl.ClockLeq(b, either) || !impl.ClockLeq(both, a) || !impl.ClockLeq(both, b) {
				t.Fatal(a, b, either, both)
			}
			if impl.ClockSum(either)+impl.ClockSum(both) != impl.ClockSum(a)+impl.ClockSum(b) {
				t.Fatal(a, b, either, both)
			}
			for _, c := range clocks {
				if impl.ClockLeq(either, c) != (impl.ClockLeq(a, c) && impl.ClockLeq(b, c)) {
					t.Fatal(a, b, c, either)
				}
				if impl.ClockLeq(c, both) != (impl.ClockLeq(c, a) && impl.ClockLeq(c, b)) {
					t.Fatal(a, b, c, both)
				}
			}
		}
	}
}

func TestClockAnswersAreNewMemory(t *testing.T) {
	for _, give := range []func(a, b []int) []int{impl.ClockMax, impl.ClockMin} {
		for _, p := range clockPairs {
			a, b := guardInts(p.a), guardInts(p.b)
			first := give(a.list, b.list)
			asWas := slices.Clone(first)
			second := give(a.list, b.list)
			overwrite(first)
			a.check(t, "first clock")
			b.check(t, "second clock")
			if !slices.Equal(second, asWas) || !slices.Equal(give(a.list, b.list), asWas) {
				t.Fatal("answers share memory, or one is kept", p.a, p.b, asWas, second)
			}
			alone := give(a.list, a.list)
			overwrite(alone)
			a.check(t, "one clock twice")
		}
	}
}

func TestClocksThatOverlap(t *testing.T) {
	row := []int{1, 5, 2, 8}
	a, b := row[:3], row[1:]
	if got := impl.ClockMax(a, b); !slices.Equal(got, []int{5, 5, 8}) {
		t.Fatal(got)
	}
	if got := impl.ClockMin(a, b); !slices.Equal(got, []int{1, 2, 2}) {
		t.Fatal(got)
	}
	if !impl.Beside(a, b) || impl.ClockLeq(a, b) || !slices.Equal(row, []int{1, 5, 2, 8}) {
		t.Fatal(row)
	}
}
