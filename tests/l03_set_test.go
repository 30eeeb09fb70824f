package tests

import (
	"math"
	"slices"
	"testing"

	"loop.example/g00717/impl"
)

func TestSetLimit(t *testing.T) {
	if impl.MaxActs != 60 {
		t.Fatal(impl.MaxActs)
	}
}

// act is a grant of the keeper; what it grants tells it from other acts.
func act(r, n int, dep ...int) impl.Act {
	return impl.Act{R: r, N: n, Dep: dep, Kind: impl.KdGrant, To: n % 6, Bucket: r % 3, Mask: 10 + r}
}

// history gives acts of all kinds, as places wrote them that met now and then, in order.
func history(places, count, shift int) []impl.Act {
	acts := writtenActs(places, count, shift)
	for i := range acts {
		dress(&acts[i], i)
	}
	return inOrder(acts)
}

// dress makes an act one of the four kinds, by turns.
func dress(a *impl.Act, i int) {
	known := slices.IndexFunc(a.Dep, func(count int) bool { return count > 0 })
	switch {
	case i%4 == 0:
		a.Kind, a.To, a.Bucket, a.Mask = impl.KdGrant, i%6, i%3, i%16
	case i%4 == 1:
		a.Kind, a.Bucket, a.Mask = impl.KdCeil, i%3, i%16
	case i%4 == 2 && known >= 0:
		a.Kind, a.GR, a.GN = impl.KdRevoke, known, a.Dep[known]
	default:
		for u := range 1 + i%5 {
			a.Ups = append(a.Ups, impl.Up{Kind: 1 + u%4, Bucket: u % 3, Key: i % 4, Val: i})
		}
	}
}

func plainAhead(a, b impl.Act) bool {
	sumOf := func(dep []int) int {
		sum := 0
		for _, count := range dep {
			sum += count
		}
		return sum
	}
	switch x, y := sumOf(a.Dep), sumOf(b.Dep); {
	case x != y:
		return x < y
	case a.R != b.R:
		return a.R < b.R
	}
	return a.N < b.N
}

func inOrder(l []impl.Act) []impl.Act {
	l = slices.Clone(l)
	slices.SortStableFunc(l, func(a, b impl.Act) int {
		switch {
		case plainAhead(a, b):
			return -1
		case plainAhead(b, a):
			return 1
		}
		return 0
	})
	return l
}

func plainFind(l []impl.Act, r, n int) int {
	return slices.IndexFunc(l, func(a impl.Act) bool { return a.R == r && a.N == n })
}

func plainCount(l []impl.Act, place int) int {
	count := 0
	for _, a := range l {
		if a.R == place {
			count++
		}
	}
	return count
}

// plainSetOk says once more, sentence by sentence, what the document asks of a set.
func plainSetOk(l []impl.Act, n int) bool {
	if n < 1 || n > 4 || len(l) > 60 {
		return false
	}
	for k, a := range l {
		if !plainActOk(a, n) || k+1 < len(l) && !plainAhead(a, l[k+1]) {
			return false
		}
	}
	for place := range n {
		count := plainCount(l, place)
		for number := 1; number <= count; number++ {
			if plainFind(l, place, number) < 0 {
				return false
			}
		}
		if slices.ContainsFunc(l, func(a impl.Act) bool { return a.Dep[place] > count }) {
			return false
		}
	}
	for _, a := range l {
		for _, b := range l {
			if b.N <= a.Dep[b.R] && !plainPair(b.Dep, a.Dep).aLeqB {
				return false
			}
		}
	}
	return true
}

func countsOf(l []impl.Act, n int) []int {
	var v []int
	for place := range n {
		v = append(v, plainCount(l, place))
	}
	return v
}

func plainAdd(l []impl.Act, n int, a impl.Act) ([]impl.Act, bool) {
	more := inOrder(append(slices.Clone(l), a))
	if !plainSetOk(l, n) || plainFind(l, a.R, a.N) >= 0 || !plainSetOk(more, n) {
		return nil, false
	}
	return more, true
}

func plainUnion(l, m []impl.Act, n int) ([]impl.Act, bool) {
	if !plainSetOk(l, n) || !plainSetOk(m, n) {
		return nil, false
	}
	both := slices.Clone(l)
	for _, b := range m {
		k := plainFind(l, b.R, b.N)
		if k >= 0 && !impl.SameAct(l[k], b) {
			return nil, false
		}
		if k < 0 {
			both = append(both, b)
		}
	}
	if both = inOrder(both); !plainSetOk(both, n) {
		return nil, false
	}
	return both, true
}

// plainCut gives what Part and what Lacks have to tell.
func plainCut(l []impl.Act, n int, v []int) ([]impl.Act, []impl.Act) {
	if !plainSetOk(l, n) || !plainClock(v) || len(v) != n {
		return nil, nil
	}
	var part, rest []impl.Act
	for _, a := range l {
		if a.N <= v[a.R] {
			part = append(part, a)
		} else {
			rest = append(rest, a)
		}
	}
	if !plainSetOk(part, n) {
		part = nil
	}
	return part, rest
}

func copyActs(l []impl.Act) []impl.Act {
	var copies []impl.Act
	for _, a := range l {
		copies = append(copies, copyAct(a))
	}
	return copies
}

func sameActs(l, m []impl.Act) bool {
	return slices.EqualFunc(l, m, impl.SameAct)
}

func checkSet(t *testing.T, l []impl.Act, n int, want bool) {
	t.Helper()
	g := guardActs(l)
	if got := impl.SetOk(g.list, n); got != want {
		t.Fatalf("SetOk(%+v, %d): %v", l, n, got)
	}
	var counts []int
	if want {
		counts = countsOf(l, n)
	}
	first, second := impl.ClockOf(g.list, n), impl.ClockOf(g.list, n)
	if !slices.Equal(first, counts) {
		t.Fatalf("ClockOf(%+v, %d): %v", l, n, first)
	}
	overwrite(first)
	if !slices.Equal(second, counts) || !slices.Equal(impl.ClockOf(g.list, n), counts) {
		t.Fatal("answers of ClockOf share memory, or one is kept")
	}
	g.check(t, "SetOk, ClockOf")
}

// checkActs asks twice for a list of acts, and overwrites what comes back first:
// neither the second nor a third answer may change.
func checkActs(t *testing.T, what string, want []impl.Act, give func() []impl.Act) {
	t.Helper()
	want = copyActs(want)
	first, second := give(), give()
	if !sameActs(first, want) {
		t.Fatalf("%s: %+v, not %+v", what, first, want)
	}
	overwriteActs(t, first)
	if !sameActs(second, want) || !sameActs(give(), want) {
		t.Fatal("answers share memory, or one is kept:", what)
	}
}

func checkAdd(t *testing.T, l []impl.Act, n int, a impl.Act, want []impl.Act, wantOk bool) {
	t.Helper()
	g, h := guardActs(l), guardAct(a)
	checkActs(t, "AddAct", want, func() []impl.Act {
		got, ok := impl.AddAct(g.list, n, h.act)
		if ok != wantOk {
			t.Fatalf("AddAct(%+v, %d, %+v): %v", l, n, a, ok)
		}
		return got
	})
	g.check(t, "AddAct, acts")
	h.check(t, "AddAct, act")
}

func checkUnion(t *testing.T, l, m []impl.Act, n int, want []impl.Act, wantOk bool) {
	t.Helper()
	g, h := guardActs(l), guardActs(m)
	checkActs(t, "Union", want, func() []impl.Act {
		got, ok := impl.Union(g.list, h.list, n)
		if ok != wantOk {
			t.Fatalf("Union(%+v, %+v, %d): %v", l, m, n, ok)
		}
		return got
	})
	g.check(t, "Union, first acts")
	h.check(t, "Union, second acts")
}

func checkCut(t *testing.T, l []impl.Act, n int, v []int, part, rest []impl.Act) {
	t.Helper()
	g, h := guardActs(l), guardInts(v)
	checkActs(t, "Part", part, func() []impl.Act { return impl.Part(g.list, n, h.list) })
	checkActs(t, "Lacks", rest, func() []impl.Act { return impl.Lacks(g.list, n, h.list) })
	g.check(t, "Part, Lacks, acts")
	h.check(t, "Part, Lacks, clock")
}

// checkRefused asks all functions of a list that is not SetOk.
func checkRefused(t *testing.T, l []impl.Act, n int) {
	t.Helper()
	checkSet(t, l, n, false)
	for places := range impl.MaxPlaces {
		v := make([]int, places+1)
		checkCut(t, l, n, v, nil, nil)
		fill(v, top)
		checkCut(t, l, n, v, nil, nil)
	}
	checkUnion(t, l, nil, n, nil, false)
	checkUnion(t, nil, l, n, nil, false)
	checkUnion(t, l, l, n, nil, false)
	checkAdd(t, l, n, act(0, 1, make([]int, max(0, min(n, 9)))...), nil, false)
	for k := 0; k < len(l); k += 1 + len(l)/8 {
		checkAdd(t, l, n, l[k], nil, false)
	}
}

// twoPlaces have met once each way: a1 and b1 stand beside each other, b2 knows
// a1, and a3 knows all.
func twoPlaces() (a1, b1, a2, b2, a3 impl.Act) {
	return act(0, 1, 0, 0), act(1, 1, 0, 0), act(0, 2, 1, 0), act(1, 2, 1, 1), act(0, 3, 2, 2)
}

// chain gives that many acts of one place, one behind the other.
func chain(r, count, places int) []impl.Act {
	var l []impl.Act
	for n := 1; n <= count; n++ {
		dep := make([]int, places)
		dep[r] = n - 1
		l = append(l, act(r, n, dep...))
	}
	return l
}

func TestSetOkByPlaces(t *testing.T) {
	for _, n := range []int{math.MinInt, -1, 0, impl.MaxPlaces + 1, math.MaxInt} {
		checkRefused(t, nil, n)
		checkRefused(t, []impl.Act{}, n)
	}
	checkRefused(t, []impl.Act{act(0, 1)}, 0)
	checkRefused(t, []impl.Act{act(0, 1, 0, 0, 0, 0, 0)}, impl.MaxPlaces+1)
	for n := 1; n <= impl.MaxPlaces; n++ {
		checkSet(t, nil, n, true)
		checkSet(t, []impl.Act{}, n, true)
		for r := range n {
			l := chain(r, 3, n)
			checkSet(t, l, n, true)
			checkRefused(t, l, n-1)
			checkRefused(t, l, n+1)
		}
	}
}

func TestSetOkByHand(t *testing.T) {
	a1, b1, a2, b2, a3 := twoPlaces()
	good := []impl.Act{a1, b1, a2, b2, a3}
	for count := range len(good) + 1 {
		checkSet(t, good[:count], 2, true)
	}
	for _, l := range [][]impl.Act{{a1}, {b1}, {a1, a2}, {a1, b1, b2}, {a1, b1, act(0, 2, 1, 1)}} {
		checkSet(t, l, 2, true)
	}
	onlyTheLater := act(0, 2, 1, 0)
	again := act(0, 1, 0, 1)
	for _, c := range []struct {
		what string
		l    []impl.Act
	}{
		{"not in order", []impl.Act{b1, a1}},
		{"not in order", []impl.Act{a1, a2, b1}},
		{"not in order", []impl.Act{a2, a1}},
		{"not in order at the end", []impl.Act{a1, b1, a2, a3, b2}},
		{"number 1 left out", []impl.Act{onlyTheLater}},
		{"number 1 left out", []impl.Act{a1, a2, act(1, 2, 0, 1)}},
		{"number 2 left out", []impl.Act{a1, b1, b2, a3}},
		{"one act twice", []impl.Act{a1, a1}},
		{"one act twice", []impl.Act{a1, b1, a2, a2}},
		{"one number twice", []impl.Act{a1, b1, again}},
		{"no good act", []impl.Act{a1, act(1, 1, 0)}},
		{"no good act", []impl.Act{a1, act(1, 1, 1)}},
		{"no good act", []impl.Act{act(0, 1, 0, -1)}},
		{"no good act", []impl.Act{{}}},
		{"no good act", []impl.Act{a1, act(2, 1, 0, 0)}},
		{"no good act", []impl.Act{act(-1, 1, 0, 0), a1}},
		{"an act is known that is not there", []impl.Act{a1, act(0, 2, 1, 1)}},
		{"an act is known that is not there", []impl.Act{act(1, 1, 1, 0)}},
		{"an act is known that is not there", []impl.Act{a1, a2, act(1, 1, 3, 0)}},
		{"what was known is forgotten", []impl.Act{b1, act(0, 1, 0, 1), act(0, 2, 1, 0)}},
		{"both know each other", []impl.Act{act(0, 1, 0, 1), act(1, 1, 1, 0)}},
	} {
		t.Run(c.what, func(t *testing.T) { checkRefused(t, c.l, 2) })
	}
}

func TestSetOkByWhatIsKnownOfOthers(t *testing.T) {
	c1, a1 := act(2, 1, 0, 0, 0), act(0, 1, 0, 0, 1)
	checkSet(t, []impl.Act{c1, a1, act(1, 1, 1, 0, 1)}, 3, true)
	checkSet(t, []impl.Act{c1, act(1, 1, 0, 0, 1), act(0, 1, 0, 1, 1)}, 3, true)
	checkRefused(t, []impl.Act{c1, a1, act(1, 1, 1, 0, 0)}, 3)
	// the same, told by a place that is not the last one
	checkRefused(t, []impl.Act{act(0, 1, 0, 0, 0), act(1, 1, 1, 0, 0), act(2, 1, 0, 1, 0)}, 3)
	checkSet(t, []impl.Act{act(0, 1, 0, 0, 0), act(1, 1, 1, 0, 0), act(2, 1, 1, 1, 0)}, 3, true)
}

// manyActs gives that many acts of all four places, none of which knows one of another place.
func manyActs(count int) []impl.Act {
	var l []impl.Act
	for r := range 4 {
		l = append(l, chain(r, (count+3-r)/4, 4)...)
	}
	return inOrder(l)
}

func TestSetOkByActs(t *testing.T) {
	for _, count := range []int{1, impl.MaxActs - 1, impl.MaxActs} {
		checkSet(t, chain(0, count, 1), 1, true)
		checkSet(t, chain(3, count, 4), 4, true)
		checkSet(t, manyActs(count), 4, true)
		checkSet(t, history(4, count, 1), 4, true)
	}
	for _, count := range []int{impl.MaxActs + 1, impl.MaxActs + 2, 500} {
		checkRefused(t, chain(0, count, 1), 1)
		checkRefused(t, chain(3, count, 4), 4)
		checkRefused(t, manyActs(count), 4)
		checkRefused(t, history(4, count, 1), 4)
	}
}

// TestSetOkAgainstThePlainOne spoils good sets, act by act, in many small ways.
func TestSetOkAgainstThePlainOne(t *testing.T) {
	seen := map[bool]int{}
	for n := 1; n <= impl.MaxPlaces; n++ {
		for shift := range 3 {
			for _, l := range spoiled(history(n, 14, shift)) {
				want := plainSetOk(l, n)
				checkSet(t, l, n, want)
				seen[want]++
			}
		}
	}
	if seen[true] < 1000 || seen[false] < 1000 {
		t.Fatal("this says little", seen)
	}
}

// spoiled gives lists that differ a little from a good one.
func spoiled(good []impl.Act) [][]impl.Act {
	lists := [][]impl.Act{good}
	for k, a := range good {
		lists = append(lists, slices.Delete(slices.Clone(good), k, k+1))
		lists = append(lists, slices.Insert(slices.Clone(good), k, a))
		lists = append(lists, inOrder(slices.Delete(slices.Clone(good), k, k+1)))
		turned := slices.Clone(good)
		turned[k], turned[0] = turned[0], turned[k]
		lists = append(lists, turned)
		for _, b := range changes(a) {
			l := slices.Clone(good)
			l[k] = b
			lists = append(lists, l, inOrder(l))
		}
	}
	return lists
}

// changes gives acts that differ from a in one number.
func changes(a impl.Act) []impl.Act {
	var acts []impl.Act
	for _, f := range numberFields {
		for _, change := range []int{-1, 1} {
			b := copyAct(a)
			*f.of(&b) += change
			acts = append(acts, b)
		}
	}
	for i := range a.Dep {
		for _, change := range []int{-2, -1, 1, 2} {
			b := copyAct(a)
			b.Dep[i] += change
			acts = append(acts, b)
		}
	}
	for i := range a.Ups {
		b := copyAct(a)
		b.Ups[i].Val++
		acts = append(acts, b)
	}
	return acts
}

func TestClockOfByHand(t *testing.T) {
	a1, b1, a2, b2, a3 := twoPlaces()
	for _, c := range []struct {
		l    []impl.Act
		n    int
		want []int
	}{
		{nil, 1, []int{0}},
		{nil, 4, []int{0, 0, 0, 0}},
		{[]impl.Act{b1}, 2, []int{0, 1}},
		{[]impl.Act{a1, b1, a2, b2, a3}, 2, []int{3, 2}},
		{chain(2, 60, 3), 3, []int{0, 0, 60}},
		{[]impl.Act{b1}, 1, nil},
		{[]impl.Act{b1}, 3, nil},
		{[]impl.Act{a2}, 2, nil},
		{nil, 0, nil},
		{nil, 5, nil},
	} {
		if got := impl.ClockOf(c.l, c.n); !slices.Equal(got, c.want) {
			t.Fatal(c.l, c.n, got)
		}
	}
}

func TestAddActByHand(t *testing.T) {
	a1, b1, a2, b2, a3 := twoPlaces()
	for _, c := range []struct {
		l    []impl.Act
		a    impl.Act
		want []impl.Act // nothing, if it is refused
	}{
		{nil, a1, []impl.Act{a1}},
		{[]impl.Act{}, b1, []impl.Act{b1}},
		{[]impl.Act{b1}, a1, []impl.Act{a1, b1}},
		{[]impl.Act{a1}, b1, []impl.Act{a1, b1}},
		{[]impl.Act{a1, a2}, b1, []impl.Act{a1, b1, a2}},
		{[]impl.Act{a1, b1, b2}, a2, []impl.Act{a1, b1, a2, b2}},
		{[]impl.Act{a1, b1, a2}, b2, []impl.Act{a1, b1, a2, b2}},
		{[]impl.Act{a1, b1, a2, b2}, a3, []impl.Act{a1, b1, a2, b2, a3}},
		// what it knows is not there yet
		{nil, a2, nil}, {[]impl.Act{a1}, b2, nil}, {[]impl.Act{b1}, b2, nil}, {[]impl.Act{a1, b1, a2}, a3, nil},
		// it is there, or something else of its R and N is
		{[]impl.Act{a1}, a1, nil}, {[]impl.Act{a1, b1, a2}, a2, nil},
		{[]impl.Act{a1, b1}, act(0, 1, 0, 1), nil}, {[]impl.Act{a1}, aGrant(), nil},
		// it is no good act
		{nil, impl.Act{}, nil}, {nil, act(0, 1), nil}, {nil, act(0, 1, 0), nil}, {nil, act(0, 1, 0, 0, 0), nil},
		{nil, act(2, 1, 0, 0), nil}, {nil, act(-1, 1, 0, 0), nil}, {nil, act(0, 0, -1, 0), nil},
		{[]impl.Act{a1}, act(math.MaxInt, math.MinInt, math.MaxInt, math.MaxInt), nil},
		// it knows what is not there, or has forgotten what it knew
		{[]impl.Act{a1}, act(0, 2, 1, 1), nil},
		{[]impl.Act{b1, act(0, 1, 0, 1)}, act(0, 2, 1, 0), nil},
		// l is not as it should be, though with a it would be
		{[]impl.Act{a2}, a1, nil}, {[]impl.Act{b2}, a1, nil}, {[]impl.Act{a1, b2}, b1, nil}, {[]impl.Act{b1, a1}, a2, nil},
	} {
		checkAdd(t, c.l, 2, c.a, c.want, c.want != nil)
	}
	for _, n := range []int{math.MinInt, -1, 0, 1, 3, 4, 5} {
		checkAdd(t, nil, n, a1, nil, false)
		checkAdd(t, []impl.Act{a1}, n, a2, nil, false)
	}
}

func TestAddActByActs(t *testing.T) {
	for count := impl.MaxActs - 2; count <= impl.MaxActs+1; count++ {
		l := chain(1, count+1, 2)
		last := l[count]
		first := act(0, 1, 0, 0)
		if count < impl.MaxActs {
			checkAdd(t, l[:count], 2, last, l, true)
			checkAdd(t, l[:count], 2, first, slices.Insert(slices.Clone(l[:count]), 0, first), true)
		} else {
			checkAdd(t, l[:count], 2, last, nil, false)
			checkAdd(t, l[:count], 2, first, nil, false)
		}
	}
}

// TestAddActAgainstThePlainOne takes each act away in turn, and puts it, and
// what differs a little from it, back.
func TestAddActAgainstThePlainOne(t *testing.T) {
	seen := map[bool]int{}
	for n := 1; n <= impl.MaxPlaces; n++ {
		l := history(n, 13, n)
		for k, a := range l {
			rest := slices.Delete(slices.Clone(l), k, k+1)
			for _, b := range append(changes(a), a) {
				for _, to := range [][]impl.Act{rest, l, l[:k]} {
					want, wantOk := plainAdd(to, n, b)
					checkAdd(t, to, n, b, want, wantOk)
					seen[wantOk]++
				}
			}
		}
	}
	if seen[true] < 100 || seen[false] < 100 {
		t.Fatal("this says little", seen)
	}
}

func TestUnionByHand(t *testing.T) {
	a1, b1, a2, b2, a3 := twoPlaces()
	all := []impl.Act{a1, b1, a2, b2, a3}
	for _, c := range [][3][]impl.Act{
		{nil, nil, nil}, {nil, {}, nil}, {{}, {}, {}},
		{{a1}, {}, {a1}}, {{a1}, {a1}, {a1}},
		{{a1}, {b1}, {a1, b1}},
		{{a1, a2}, {b1}, {a1, b1, a2}},
		{{a1, a2}, {a1, b1, b2}, {a1, b1, a2, b2}},
		{all, all, all}, {all, all[:2], all}, {all, nil, all}, {all, {b1}, all}, {all, {a1, b1, b2}, all},
	} {
		checkUnion(t, c[0], c[1], 2, c[2], true)
		checkUnion(t, c[1], c[0], 2, c[2], true)
	}
	for _, n := range []int{math.MinInt, -1, 0, impl.MaxPlaces + 1, math.MaxInt} {
		checkUnion(t, nil, nil, n, nil, false)
	}
	for n := 1; n <= impl.MaxPlaces; n++ {
		checkUnion(t, nil, nil, n, nil, true)
		if n != 2 {
			checkUnion(t, all, nil, n, nil, false)
			checkUnion(t, nil, all, n, nil, false)
		}
	}
	// neither is good alone, though both together would be
	checkUnion(t, []impl.Act{a1}, []impl.Act{b1, b2}, 2, nil, false)
	checkUnion(t, []impl.Act{a2}, []impl.Act{a1}, 2, nil, false)
	checkUnion(t, []impl.Act{b1, a1}, []impl.Act{a1, b1}, 2, nil, false)
}

// TestUnionOfUnlikeActs: two acts of one R and N are not the same; the one that
// differs stands at each place of the order.
func TestUnionOfUnlikeActs(t *testing.T) {
	for n := 1; n <= impl.MaxPlaces; n++ {
		l := history(n, 12, 2)
		unlike := 0
		for k, a := range l {
			for _, b := range changes(a) {
				m := slices.Clone(l)
				m[k] = b
				if m = inOrder(m); !plainSetOk(m, n) || plainFind(l, b.R, b.N) != k {
					continue
				}
				unlike++
				checkUnion(t, l, m, n, nil, false)
				checkUnion(t, m, l, n, nil, false)
				checkUnion(t, m, m, n, m, true)
				before := plainFind(m, b.R, b.N)
				checkUnion(t, l, m[:before], n, l, true)
				checkUnion(t, l, m[:before+1], n, nil, false)
				checkUnion(t, m[:before+1], l, n, nil, false)
			}
		}
		if unlike < 12 {
			t.Fatal("this says little", n, unlike)
		}
	}
	// each place went on from other acts: what a number stands for is not the same
	a1, b1, _, _, _ := twoPlaces()
	checkUnion(t, []impl.Act{a1}, []impl.Act{b1, act(0, 1, 0, 1)}, 2, nil, false)
	checkUnion(t, []impl.Act{b1, act(0, 1, 0, 1)}, []impl.Act{a1}, 2, nil, false)
}

func TestUnionByActs(t *testing.T) {
	half := impl.MaxActs / 2
	for more := range 3 {
		l, m := chain(0, half, 2), chain(1, half-1+more, 2)
		both := inOrder(append(slices.Clone(l), m...))
		if len(both) > impl.MaxActs {
			both = nil
		}
		checkUnion(t, l, m, 2, both, both != nil)
		checkUnion(t, m, l, 2, both, both != nil)
	}
	full := history(3, impl.MaxActs, 1)
	checkUnion(t, full, full, 3, full, true)
	checkUnion(t, full, full[:40], 3, full, true)
	checkUnion(t, full, history(3, impl.MaxActs+1, 1), 3, nil, false)
}

func TestCutByHand(t *testing.T) {
	a1, b1, a2, b2, a3 := twoPlaces()
	all := []impl.Act{a1, b1, a2, b2, a3}
	for _, c := range []struct {
		v          []int
		part, rest []impl.Act
	}{
		{[]int{0, 0}, nil, all},
		{[]int{1, 0}, []impl.Act{a1}, []impl.Act{b1, a2, b2, a3}},
		{[]int{0, 1}, []impl.Act{b1}, []impl.Act{a1, a2, b2, a3}},
		{[]int{2, 1}, []impl.Act{a1, b1, a2}, []impl.Act{b2, a3}},
		{[]int{1, 2}, []impl.Act{a1, b1, b2}, []impl.Act{a2, a3}},
		{[]int{2, 2}, []impl.Act{a1, b1, a2, b2}, []impl.Act{a3}},
		{[]int{3, 2}, all, nil},
		{[]int{4, 2}, all, nil},
		{[]int{3, 3}, all, nil},
		{[]int{top, top}, all, nil},
		// what comes out of Part knows what is not there
		{[]int{0, 2}, nil, []impl.Act{a1, a2, a3}},
		{[]int{3, 0}, nil, []impl.Act{b1, b2}},
		{[]int{3, 1}, nil, []impl.Act{b2}},
		{[]int{0, top}, nil, []impl.Act{a1, a2, a3}},
		// no clocks for two places
		{nil, nil, nil}, {[]int{}, nil, nil}, {[]int{3}, nil, nil}, {[]int{0}, nil, nil},
		{[]int{3, 2, 0}, nil, nil}, {[]int{0, 0, 0, 0}, nil, nil}, {[]int{3, 2, 0, 0, 0}, nil, nil},
		{[]int{-1, 0}, nil, nil}, {[]int{3, -1}, nil, nil}, {[]int{top + 1, 2}, nil, nil}, {[]int{3, top + 1}, nil, nil},
		{[]int{math.MinInt, math.MaxInt}, nil, nil},
	} {
		checkCut(t, all, 2, c.v, c.part, c.rest)
		checkCut(t, nil, 2, c.v, nil, nil)
	}
	for _, n := range []int{math.MinInt, -1, 0, 1, 3, 4, 5, math.MaxInt} {
		checkCut(t, all, n, []int{3, 2}, nil, nil)
		checkCut(t, all, n, make([]int, max(0, min(n, 9))), nil, nil)
	}
}

func TestCutAgainstThePlainOne(t *testing.T) {
	for n := 1; n <= impl.MaxPlaces; n++ {
		l := history(n, 16, 3)
		counts := []int{-1, 0, 1, 2, 3, 4, 5, 16, top, top + 1}
		if n == impl.MaxPlaces {
			counts = []int{0, 1, 3, 4, top}
		}
		for _, v := range listsOf(n, counts) {
			part, rest := plainCut(l, n, v)
			checkCut(t, l, n, v, part, rest)
		}
		full := countsOf(l, n)
		checkCut(t, l, n, full, l, nil)
		for place := range n {
			less, more := slices.Clone(full), slices.Clone(full)
			less[place]--
			more[place]++
			part, rest := plainCut(l, n, less)
			checkCut(t, l, n, less, part, rest)
			checkCut(t, l, n, more, l, nil)
		}
	}
}

// TestPromise3Known: what an act knows is there, and stands ahead of it.
func TestPromise3Known(t *testing.T) {
	for n := 1; n <= impl.MaxPlaces; n++ {
		for shift := range 5 {
			l := history(n, 30, shift)
			checkSet(t, l, n, true)
			for k, a := range l {
				knows := 0
				for b := range l {
					if impl.Knows(a, l[b]) {
						knows++
						if b >= k || !impl.Ahead(l[b], a) {
							t.Fatal("known, and not ahead", a, l[b])
						}
					}
				}
				part := impl.Part(l, n, a.Dep)
				if knows != impl.ClockSum(a.Dep) || len(part) != knows || !slices.Equal(impl.ClockOf(part, n), a.Dep) {
					t.Fatal("not all that is known is there", a, part)
				}
			}
		}
	}
}

// TestPromise3Together: brought together from both sides it is the same; once
// more, with itself or with a part of itself, it stays as it was.
func TestPromise3Together(t *testing.T) {
	for n := 1; n <= impl.MaxPlaces; n++ {
		for shift := range 3 {
			l := history(n, 11, shift)
			parts := partsOf(l, n)
			for _, p := range parts {
				checkUnion(t, p, p, n, p, true)
				checkUnion(t, l, p, n, l, true)
				checkUnion(t, p, l, n, l, true)
				for _, q := range parts {
					want, _ := plainUnion(p, q, n)
					checkUnion(t, p, q, n, want, true)
					checkUnion(t, q, p, n, want, true)
					v := impl.ClockMax(impl.ClockOf(p, n), impl.ClockOf(q, n))
					if !slices.Equal(impl.ClockOf(want, n), v) || !sameActs(impl.Part(l, n, v), want) {
						t.Fatal("what either knows is not what both know together", p, q)
					}
				}
			}
		}
	}
}

// partsOf gives what is known to single acts, and what stands up to them.
func partsOf(l []impl.Act, n int) [][]impl.Act {
	parts := [][]impl.Act{nil, l}
	for k, a := range l {
		part, _ := plainCut(l, n, a.Dep)
		with, _ := plainAdd(part, n, a)
		parts = append(parts, part, with)
		if plainSetOk(l[:k], n) {
			parts = append(parts, l[:k])
		}
	}
	return parts
}

// TestPromise3Order: in whatever order acts are put, as soon as they may be, the
// same comes out; and what one lacks is what the other has beyond it.
func TestPromise3Order(t *testing.T) {
	for n := 1; n <= impl.MaxPlaces; n++ {
		l := history(n, 24, 4)
		for step := 1; step < 24; step += 2 {
			var got []impl.Act
			for turn := 0; len(got) < len(l) && turn < 1000; turn++ {
				if more, ok := impl.AddAct(got, n, l[turn*step%len(l)]); ok {
					got = more
				}
				if turn%24 == 23 {
					step++ // a step that misses some acts goes on to others
				}
			}
			if !sameActs(got, l) {
				t.Fatal("not the same", n, step, len(got))
			}
		}
		for _, part := range partsOf(l, n) {
			got := part
			for _, a := range impl.Lacks(l, n, impl.ClockOf(part, n)) {
				got, _ = impl.AddAct(got, n, a)
			}
			if !sameActs(got, l) {
				t.Fatal("what is lacking is not all that is lacking", part)
			}
		}
	}
}

func TestUnionWithWhatLiesInTheSameMemory(t *testing.T) {
	l := history(3, 20, 2)
	g := guardActs(l)
	for count := range len(l) + 1 {
		if !impl.SetOk(g.list[:count], 3) {
			continue
		}
		got, ok := impl.Union(g.list[:count], g.list, 3)
		if !ok || !sameActs(got, l) {
			t.Fatal(count, ok, got)
		}
		overwriteActs(t, got)
		if count < len(l) {
			got, _ = impl.AddAct(g.list[:count], 3, g.list[count])
			overwriteActs(t, got)
		}
		g.check(t, "one list twice")
	}
}
