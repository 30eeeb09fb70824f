package tests

import (
	"math"
	"slices"
	"testing"

	"loop.example/g00717/impl"
)

func TestActConstants(t *testing.T) {
	got := []int{impl.Actors, impl.Buckets, impl.Keys, impl.MaxUps}
	got = append(got, impl.RtRead, impl.RtWrite, impl.RtAdd, impl.RtGrant)
	got = append(got, impl.KdGrant, impl.KdRevoke, impl.KdCeil, impl.KdTxn)
	got = append(got, impl.UpSet, impl.UpAdd, impl.UpIns, impl.UpRem)
	if want := []int{6, 3, 4, 5, 1, 2, 4, 8, 1, 2, 3, 4, 1, 2, 3, 4}; !slices.Equal(got, want) {
		t.Fatal(got)
	}
}

func aGrant() impl.Act {
	return impl.Act{R: 1, N: 3, Dep: []int{4, 2, 7}, Actor: 2, Kind: impl.KdGrant, To: 4, Bucket: 1, Mask: 9}
}

func aRevoke() impl.Act {
	return impl.Act{R: 1, N: 3, Dep: []int{4, 2, 7}, Actor: 3, Kind: impl.KdRevoke, GR: 2, GN: 5}
}

func aCeiling() impl.Act {
	return impl.Act{R: 1, N: 3, Dep: []int{4, 2, 7}, Actor: 0, Kind: impl.KdCeil, Bucket: 2, Mask: 6}
}

func aTxn() impl.Act {
	return impl.Act{R: 1, N: 3, Dep: []int{4, 2, 7}, Actor: 5, Kind: impl.KdTxn, Ups: []impl.Up{
		{Kind: impl.UpSet, Bucket: 0, Key: 1, Val: 8},
		{Kind: impl.UpAdd, Bucket: 1, Key: 2, Val: -3},
		{Kind: impl.UpIns, Bucket: 2, Key: 3, Val: 0},
		{Kind: impl.UpRem, Bucket: 0, Key: 0, Val: 8},
	}}
}

// oneOfEach has an act of each kind, all of them good for 3 places.
func oneOfEach() []impl.Act {
	return []impl.Act{aGrant(), aRevoke(), aCeiling(), aTxn()}
}

// numberFields are all fields of an act that are numbers, by name.
var numberFields = []struct {
	name string
	of   func(a *impl.Act) *int
}{
	{"R", func(a *impl.Act) *int { return &a.R }},
	{"N", func(a *impl.Act) *int { return &a.N }},
	{"Actor", func(a *impl.Act) *int { return &a.Actor }},
	{"Kind", func(a *impl.Act) *int { return &a.Kind }},
	{"To", func(a *impl.Act) *int { return &a.To }},
	{"Bucket", func(a *impl.Act) *int { return &a.Bucket }},
	{"Mask", func(a *impl.Act) *int { return &a.Mask }},
	{"GR", func(a *impl.Act) *int { return &a.GR }},
	{"GN", func(a *impl.Act) *int { return &a.GN }},
}

func fieldOf(a *impl.Act, name string) *int {
	for _, f := range numberFields {
		if f.name == name {
			return f.of(a)
		}
	}
	panic("no field " + name)
}

// plainActOk says once more, sentence by sentence, what the document asks of an act.
func plainActOk(a impl.Act, n int) bool {
	in := func(x, low, high int) bool { return x >= low && x <= high }
	if !in(n, 1, 4) || !in(a.R, 0, n-1) || !in(a.N, 1, 100000) || !plainClock(a.Dep) || len(a.Dep) != n {
		return false
	}
	if a.Dep[a.R] != a.N-1 || !in(a.Actor, 0, 5) || !in(a.Kind, 1, 4) {
		return false
	}
	grant, revoke, ceiling, txn := a.Kind == 1, a.Kind == 2, a.Kind == 3, a.Kind == 4
	ok := grant && in(a.To, 0, 5) || !grant && a.To == 0
	ok = ok && ((grant || ceiling) && in(a.Bucket, 0, 2) || !grant && !ceiling && a.Bucket == 0)
	ok = ok && ((grant || ceiling) && in(a.Mask, 0, 15) || !grant && !ceiling && a.Mask == 0)
	ok = ok && (revoke && in(a.GR, 0, n-1) && in(a.GN, 1, a.Dep[a.GR]) || !revoke && a.GR == 0 && a.GN == 0)
	ok = ok && (txn && len(a.Ups) <= 5 || !txn && len(a.Ups) == 0)
	for _, u := range a.Ups {
		ok = ok && in(u.Kind, 1, 4) && in(u.Bucket, 0, 2) && in(u.Key, 0, 3)
	}
	return ok
}

func checkActOk(t *testing.T, a impl.Act, n int, want bool) {
	t.Helper()
	g := guardAct(a)
	if got := impl.ActOk(g.act, n); got != want {
		t.Fatalf("ActOk(%+v, %d): %v", a, n, got)
	}
	g.check(t, "ActOk")
}

func TestActOkByPlaces(t *testing.T) {
	for _, a := range oneOfEach() {
		for n := -1; n <= impl.MaxPlaces+2; n++ {
			checkActOk(t, a, n, n == 3)
		}
		checkActOk(t, a, math.MinInt, false)
		checkActOk(t, a, math.MaxInt, false)
	}
	for n := 1; n <= impl.MaxPlaces; n++ {
		for r := range n {
			a := impl.Act{R: r, N: 1, Dep: make([]int, n), Kind: impl.KdTxn}
			checkActOk(t, a, n, true)
			checkActOk(t, a, n-1, false)
			checkActOk(t, a, n+1, false)
			a.R = n
			checkActOk(t, a, n, false)
			a.R = -1
			checkActOk(t, a, n, false)
		}
	}
	checkActOk(t, impl.Act{N: 1, Dep: make([]int, 5), Kind: impl.KdTxn}, 5, false)
	checkActOk(t, impl.Act{N: 1, Kind: impl.KdTxn}, 0, false)
	checkActOk(t, impl.Act{}, 1, false)
	checkActOk(t, impl.Act{}, 0, false)
}

func TestActOkByNumber(t *testing.T) {
	for _, a := range oneOfEach() {
		for _, c := range []struct {
			n, known int
			want     bool
		}{
			{1, 0, true}, {2, 1, true}, {top - 1, top - 2, true}, {top, top - 1, true},
			{0, -1, false}, {top + 1, top, false}, {top + 2, top + 1, false},
			{1, 1, false}, {2, 0, false}, {3, 3, false}, {top, top, false},
			{-1, 0, false}, {0, 0, false}, {math.MinInt, math.MaxInt, false},
		} {
			a.N, a.Dep[1] = c.n, c.known
			checkActOk(t, a, 3, c.want)
		}
	}
}

func TestActOkByDep(t *testing.T) {
	for _, a := range oneOfEach() {
		for _, c := range []struct {
			dep  []int
			want bool
		}{
			{[]int{4, 2, 7}, true}, {[]int{0, 2, 5}, true}, {[]int{top, 2, top}, true},
			{[]int{top + 1, 2, 7}, false}, {[]int{4, 2, top + 1}, false}, {[]int{-1, 2, 7}, false},
			{[]int{4, 3, 7}, false}, {[]int{4, 1, 7}, false}, {[]int{2, 4, 7}, false},
			{[]int{4, 2}, false}, {[]int{4, 2, 7, 0}, false}, {[]int{4, 2, 7, 0, 0}, false},
			{nil, false}, {[]int{}, false},
		} {
			a.Dep = c.dep
			checkActOk(t, a, 3, c.want)
		}
	}
}

// TestActOkAtLimits sets one field of an act: at each of the numbers the act
// must be good, or must not.
func TestActOkAtLimits(t *testing.T) {
	for _, c := range []struct {
		act         impl.Act
		field       string
		good, wrong []int
	}{
		{aGrant(), "Actor", []int{0, 1, 5}, []int{-1, 6}},
		{aGrant(), "To", []int{0, 1, 5}, []int{-1, 6}},
		{aGrant(), "Bucket", []int{0, 1, 2}, []int{-1, 3}},
		{aGrant(), "Mask", []int{0, 1, 8, 14, 15}, []int{-1, 16}},
		{aRevoke(), "Actor", []int{0, 5}, []int{-1, 6}},
		{aRevoke(), "GN", []int{1, 2, 6, 7}, []int{-1, 0, 8, top}},
		{aRevoke(), "GR", []int{2}, []int{-1, 0, 1, 3, 4}},
		{aCeiling(), "Actor", []int{0, 1, 5}, []int{-1, 6}},
		{aCeiling(), "Bucket", []int{0, 2}, []int{-1, 3}},
		{aCeiling(), "Mask", []int{0, 15}, []int{-1, 16}},
		{aTxn(), "Actor", []int{0, 5}, []int{-1, 6}},
		{aTxn(), "Kind", []int{impl.KdTxn}, []int{impl.KdGrant, impl.KdRevoke, impl.KdCeil}},
	} {
		for _, x := range c.good {
			*fieldOf(&c.act, c.field) = x
			checkActOk(t, c.act, 3, true)
		}
		for _, x := range append(c.wrong, math.MinInt, math.MaxInt) {
			*fieldOf(&c.act, c.field) = x
			checkActOk(t, c.act, 3, false)
		}
	}
}

func TestActOkByWhatIsTakenBack(t *testing.T) {
	for _, c := range []struct {
		place, number int
		want          bool
	}{
		{0, 1, true}, {0, 4, true}, {0, 0, false}, {0, 5, false},
		{1, 1, true}, {1, 2, true}, {1, 3, false},
		{2, 7, true}, {2, 8, false},
		{-1, 1, false}, {3, 1, false}, {4, 1, false},
	} {
		a := aRevoke()
		a.GR, a.GN = c.place, c.number
		checkActOk(t, a, 3, c.want)
	}
	first := impl.Act{R: 0, N: 1, Dep: []int{0, 0}, Kind: impl.KdRevoke, GR: 0, GN: 1}
	checkActOk(t, first, 2, false)
	first.GN = 0
	checkActOk(t, first, 2, false)
	far := impl.Act{R: 0, N: 1, Dep: []int{0, top}, Kind: impl.KdRevoke, GR: 1, GN: top}
	checkActOk(t, far, 2, true)
	far.GN = top + 1
	checkActOk(t, far, 2, false)
}

// foreignFields are, by kind, the fields of which the kind says nothing.
var foreignFields = [][]string{
	impl.KdGrant:  {"GR", "GN"},
	impl.KdRevoke: {"To", "Bucket", "Mask"},
	impl.KdCeil:   {"To", "GR", "GN"},
	impl.KdTxn:    {"To", "Bucket", "Mask", "GR", "GN"},
}

func TestActOkByForeignFields(t *testing.T) {
	for _, good := range oneOfEach() {
		for _, name := range foreignFields[good.Kind] {
			for _, x := range []int{0, 1, 2, -1, math.MinInt, math.MaxInt} {
				a := good
				*fieldOf(&a, name) = x
				checkActOk(t, a, 3, x == 0)
			}
		}
		a := good
		a.Ups = []impl.Up{{}}
		checkActOk(t, a, 3, false)
		a.Ups = []impl.Up{{Kind: impl.UpSet}}
		checkActOk(t, a, 3, a.Kind == impl.KdTxn)
		a.Ups = []impl.Up{}
		checkActOk(t, a, 3, true)
		a.Ups = make([]impl.Up, 0, 9)
		checkActOk(t, a, 3, true)
	}
}

func TestActOkByUps(t *testing.T) {
	a := aTxn()
	a.Ups = nil
	for count := range impl.MaxUps + 3 {
		checkActOk(t, a, 3, count <= impl.MaxUps)
		a.Ups = append(a.Ups, impl.Up{Kind: impl.UpRem, Bucket: 2, Key: 3, Val: count})
	}
	for _, c := range []struct {
		up   impl.Up
		want bool
	}{
		{impl.Up{Kind: impl.UpSet}, true}, {impl.Up{Kind: impl.UpRem}, true},
		{impl.Up{Kind: 0}, false}, {impl.Up{Kind: 5}, false}, {impl.Up{Kind: -1}, false},
		{impl.Up{Kind: impl.UpAdd, Bucket: 2}, true},
		{impl.Up{Kind: impl.UpAdd, Bucket: 3}, false}, {impl.Up{Kind: impl.UpAdd, Bucket: -1}, false},
		{impl.Up{Kind: impl.UpIns, Key: 3}, true},
		{impl.Up{Kind: impl.UpIns, Key: 4}, false}, {impl.Up{Kind: impl.UpIns, Key: -1}, false},
		{impl.Up{Kind: impl.UpSet, Val: math.MinInt}, true}, {impl.Up{Kind: impl.UpAdd, Val: math.MaxInt}, true},
	} {
		for at := range impl.MaxUps {
			a.Ups = slices.Repeat([]impl.Up{{Kind: impl.UpAdd, Bucket: 1, Key: 1, Val: 1}}, impl.MaxUps)
			a.Ups[at] = c.up
			checkActOk(t, a, 3, c.want)
		}
	}
}

// TestActOkAgainstThePlainOne changes up to two fields of acts of all kinds.
func TestActOkAgainstThePlainOne(t *testing.T) {
	numbers := []int{math.MinInt, -1, 0, 1, 2, 3, 4, 5, 6, 7, 8, 15, 16, top, top + 1, math.MaxInt}
	for _, good := range oneOfEach() {
		for _, one := range numberFields {
			for _, two := range numberFields {
				for _, x := range numbers {
					for _, y := range numbers {
						a := good
						*one.of(&a), *two.of(&a) = x, y
						checkActOk(t, a, 3, plainActOk(a, 3))
					}
				}
			}
		}
	}
}

// allKnowing gives, for each place, an act with each N of up to 2, for each Dep of few numbers.
func allKnowing() []impl.Act {
	var acts []impl.Act
	for _, dep := range listsOf(3, []int{0, 1, 2}) {
		for r, known := range dep {
			acts = append(acts, impl.Act{R: r, N: known + 1, Dep: dep, Kind: impl.KdTxn})
		}
	}
	return acts
}

func checkKnows(t *testing.T, a, b impl.Act, want bool) {
	t.Helper()
	g, h := guardAct(a), guardAct(b)
	if got := impl.Knows(g.act, h.act); got != want {
		t.Fatalf("Knows(%+v, %+v): %v", a, b, got)
	}
	g.check(t, "Knows, first act")
	h.check(t, "Knows, second act")
}

func TestKnows(t *testing.T) {
	for _, c := range []struct {
		dep  []int
		r, n int
		want bool
	}{
		{[]int{4, 2, 7}, 0, 1, true}, {[]int{4, 2, 7}, 0, 4, true}, {[]int{4, 2, 7}, 0, 5, false},
		{[]int{4, 2, 7}, 1, 2, true}, {[]int{4, 2, 7}, 1, 3, false},
		{[]int{4, 2, 7}, 2, 7, true}, {[]int{4, 2, 7}, 2, 8, false},
		{[]int{4, 2, 7}, 0, 0, false}, {[]int{4, 2, 7}, 0, -1, false}, {[]int{4, 2, 7}, 0, math.MinInt, false},
		{[]int{4, 2, 7}, -1, 1, false}, {[]int{4, 2, 7}, 3, 1, false}, {[]int{4, 2, 7}, 4, 1, false},
		{[]int{4, 2, 7}, math.MinInt, 1, false}, {[]int{4, 2, 7}, math.MaxInt, 1, false},
		{[]int{0, 0}, 0, 0, false}, {[]int{0, 0}, 0, 1, false}, {[]int{0, top}, 1, top, true},
		{nil, 0, 1, false}, {[]int{}, 0, 0, false}, {nil, -1, 0, false},
		// no clocks, but the document asks for none here
		{[]int{-5, 9}, 0, -6, false}, {[]int{-5, 9}, 0, -5, false}, {[]int{-5, 9}, 1, 9, true},
		{[]int{0, 0, 0, 0, 3}, 4, 3, true}, {[]int{0, 0, 0, 0, 3}, 5, 3, false},
		{[]int{math.MaxInt}, 0, math.MaxInt, true}, {[]int{math.MinInt}, 0, 1, false},
		{[]int{top + 1}, 0, top + 1, true},
	} {
		checkKnows(t, impl.Act{Dep: c.dep}, impl.Act{R: c.r, N: c.n}, c.want)
		// nothing but Dep of the one, and R and N of the other, is asked for
		a, b := aTxn(), aGrant()
		a.Dep, b.R, b.N = c.dep, c.r, c.n
		checkKnows(t, a, b, c.want)
		b.Dep = []int{9, 9, 9, 9, 9}
		checkKnows(t, a, b, c.want)
	}
}

// orderedActs stand in order: each one is ahead of all behind it. Their Deps
// need not be clocks.
var orderedActs = []impl.Act{
	{R: 3, N: 9, Dep: []int{math.MaxInt, 1}}, // the sum wraps
	{R: 0, N: 1, Dep: []int{-4, 1}},
	{R: -2, N: 5, Dep: nil},
	{R: -1, N: -9, Dep: []int{1, -1}},
	{R: 0, N: 1, Dep: []int{0, 0}},
	{R: 0, N: 2, Dep: []int{}},
	{R: 1, N: 1, Dep: []int{0, 0}},
	{R: 2, N: math.MinInt, Dep: []int{0, 0, 0, 0, 0, 0}},
	{R: 2, N: math.MaxInt, Dep: []int{0, 0}},
	{R: 0, N: 2, Dep: []int{1, 0}},
	{R: 1, N: 1, Dep: []int{1, 0}},
	{R: 1, N: 2, Dep: []int{0, 1}},
	{R: 0, N: 1, Dep: []int{0, 5, 0}},
	{R: 0, N: 3, Dep: []int{2, 3, 0}},
	{R: 0, N: 6, Dep: []int{5, 0, 0}},
	{R: 1, N: 1, Dep: []int{3, 0, 2}},
	{R: 0, N: 1, Dep: []int{0, 6}},
	{R: 0, N: 1, Dep: []int{0, top + 1}},
	{R: 0, N: 1, Dep: []int{0, math.MaxInt}},
}

func checkAhead(t *testing.T, a, b impl.Act, want bool) {
	t.Helper()
	g, h := guardAct(a), guardAct(b)
	if got := impl.Ahead(g.act, h.act); got != want {
		t.Fatalf("Ahead(%+v, %+v): %v", a, b, got)
	}
	g.check(t, "Ahead, first act")
	h.check(t, "Ahead, second act")
}

func TestAhead(t *testing.T) {
	for i, a := range orderedActs {
		for k, b := range orderedActs {
			checkAhead(t, a, b, i < k)
			// nothing else counts
			c := aTxn()
			c.R, c.N, c.Dep = a.R, a.N, a.Dep
			checkAhead(t, c, b, i < k)
			checkAhead(t, b, c, k < i)
		}
	}
}

func TestNeeds(t *testing.T) {
	const write, add = impl.RtWrite, impl.RtAdd
	for _, c := range []struct {
		ups  []impl.Up
		want [4]int // of buckets 0, 1, 2 and 3
	}{
		{nil, [4]int{}},
		{[]impl.Up{}, [4]int{}},
		{[]impl.Up{{Kind: impl.UpSet}}, [4]int{write}},
		{[]impl.Up{{Kind: impl.UpAdd}}, [4]int{add}},
		{[]impl.Up{{Kind: impl.UpIns, Bucket: 1}}, [4]int{0, write}},
		{[]impl.Up{{Kind: impl.UpRem, Bucket: 2}}, [4]int{0, 0, write}},
		{[]impl.Up{{Kind: impl.UpAdd, Bucket: 2}, {Kind: impl.UpRem, Bucket: 2}}, [4]int{0, 0, write | add}},
		{[]impl.Up{{Kind: impl.UpSet, Bucket: 2}, {Kind: impl.UpAdd, Bucket: 1}}, [4]int{0, add, write}},
		{[]impl.Up{{Kind: impl.UpAdd}, {Kind: impl.UpAdd}, {Kind: impl.UpSet}, {Kind: impl.UpIns}, {Kind: impl.UpRem}}, [4]int{write | add}},
		{aTxn().Ups, [4]int{write, add, write}},
		// no Ups of a transaction: what they are of stays as it is said
		{[]impl.Up{{Kind: 0}, {Kind: 5, Bucket: 1}, {Kind: -1, Bucket: 2}}, [4]int{}},
		{[]impl.Up{{Kind: impl.UpAdd, Bucket: 3}, {Kind: impl.UpSet, Key: 77}}, [4]int{write, 0, 0, add}},
		{slices.Repeat([]impl.Up{{Kind: impl.UpAdd, Bucket: 1}}, 9), [4]int{0, add}},
	} {
		a := impl.Act{R: 1, N: 3, Dep: []int{4, 2, 7}, Actor: 1, Kind: impl.KdTxn, Ups: c.ups}
		for bucket := -1; bucket <= 4; bucket++ {
			want := 0
			if bucket >= 0 && bucket < 4 {
				want = c.want[bucket]
			}
			g := guardAct(a)
			if got := impl.Needs(g.act, bucket); got != want {
				t.Fatalf("Needs(%+v, %d): %d", c.ups, bucket, got)
			}
			g.check(t, "Needs")
			// an act that is not as it should be, else
			if got := impl.Needs(impl.Act{R: -1, Dep: []int{-1}, Kind: impl.KdTxn, Ups: c.ups}, bucket); got != want {
				t.Fatalf("Needs of no good act %+v, %d: %d", c.ups, bucket, got)
			}
		}
	}
	for _, a := range []impl.Act{aGrant(), aRevoke(), aCeiling(), {}} {
		for bucket := -1; bucket <= 3; bucket++ {
			if impl.Needs(a, bucket) != 0 {
				t.Fatal(a, bucket)
			}
		}
	}
}

func checkSame(t *testing.T, a, b impl.Act, want bool) {
	t.Helper()
	g, h := guardAct(a), guardAct(b)
	if impl.SameAct(g.act, h.act) != want || impl.SameAct(h.act, g.act) != want {
		t.Fatalf("SameAct(%+v, %+v) is not %v", a, b, want)
	}
	g.check(t, "SameAct, first act")
	h.check(t, "SameAct, second act")
}

func copyAct(a impl.Act) impl.Act {
	a.Dep, a.Ups = slices.Clone(a.Dep), slices.Clone(a.Ups)
	return a
}

func TestSameActByNumbers(t *testing.T) {
	acts := append(oneOfEach(), impl.Act{}, impl.Act{R: -7, N: math.MaxInt, Dep: []int{-1, 2, 3, 4, 5, 6}, Kind: 99})
	for i, a := range acts {
		for k, b := range acts {
			checkSame(t, a, copyAct(b), i == k)
		}
		for _, f := range numberFields {
			for _, change := range []int{1, -1, math.MinInt} {
				b := copyAct(a)
				*f.of(&b) += change
				checkSame(t, a, b, false)
			}
		}
	}
}

func TestSameActByLists(t *testing.T) {
	one, two := impl.Up{Kind: impl.UpSet, Bucket: 1, Key: 2, Val: 3}, impl.Up{Kind: impl.UpAdd}
	upLists := [][]impl.Up{
		nil, {{}}, {{}, {}}, {one}, {one, two}, {two, one}, {one, one}, {one, two, {}},
		{{Kind: 2, Bucket: 1, Key: 2, Val: 3}}, {{Kind: 1, Bucket: 2, Key: 2, Val: 3}},
		{{Kind: 1, Bucket: 1, Key: 3, Val: 3}}, {{Kind: 1, Bucket: 1, Key: 2, Val: 4}},
	}
	deps := [][]int{nil, {0}, {0, 0}, {1, 2}, {2, 1}, {1, 2, 0}, {1}, {2}, {-1}, {0, 0, 0, 0, 0}}
	for i, x := range upLists {
		for k, y := range upLists {
			checkSame(t, impl.Act{Kind: impl.KdTxn, Ups: x}, impl.Act{Kind: impl.KdTxn, Ups: y}, i == k)
			checkSame(t, impl.Act{Kind: impl.KdGrant, Ups: x}, impl.Act{Kind: impl.KdGrant, Ups: y}, i == k)
		}
	}
	for i, x := range deps {
		for k, y := range deps {
			checkSame(t, impl.Act{Dep: x}, impl.Act{Dep: y}, i == k)
		}
	}
	empty := impl.Act{Dep: []int{}, Ups: []impl.Up{}}
	if !impl.SameAct(empty, impl.Act{}) || !impl.SameAct(impl.Act{}, empty) {
		t.Fatal("an empty list and nil are the same value")
	}
}

// writtenActs gives the acts of a few places that write, and sometimes hear all
// that another one knows; each act knows what its place had heard by then.
func writtenActs(places, rounds, shift int) []impl.Act {
	known := make([][]int, places)
	for i := range known {
		known[i] = make([]int, places)
	}
	var acts []impl.Act
	for round := range rounds {
		r := (round*round + shift) % places
		other := (round/2 + shift*round) % places
		if round%3 != 0 {
			known[r] = impl.ClockMax(known[r], known[other])
		}
		a := impl.Act{R: r, N: known[r][r] + 1, Dep: slices.Clone(known[r]), Actor: round % 6, Kind: impl.KdTxn}
		acts = append(acts, a)
		known[r][r]++
	}
	return acts
}

// TestPromise2: no two acts know each other; of unlike ones one stands ahead.
func TestPromise2(t *testing.T) {
	for places := 1; places <= impl.MaxPlaces; places++ {
		for shift := range 5 {
			acts := writtenActs(places, 24, shift)
			knowing := 0
			for i, a := range acts {
				checkActOk(t, a, places, true)
				for k, b := range acts {
					aKnows, bKnows := impl.Knows(a, b), impl.Knows(b, a)
					if aKnows && bKnows || aKnows && !impl.Ahead(b, a) {
						t.Fatal("knowing", a, b)
					}
					if impl.Ahead(a, b) && impl.Ahead(b, a) || (impl.Ahead(a, b) || impl.Ahead(b, a)) != (i != k) {
						t.Fatal("ahead", a, b)
					}
					if aKnows {
						knowing++
					}
				}
			}
			if knowing < 24 {
				t.Fatal("too few acts know each other for this to say much", places, shift, knowing)
			}
		}
	}
}

// TestOneAheadOfAnyTwo: acts need not come out of one history to stand in order.
func TestOneAheadOfAnyTwo(t *testing.T) {
	acts := allKnowing()
	for _, a := range acts {
		checkActOk(t, a, 3, true)
		checkKnows(t, a, a, false)
		for _, b := range acts {
			checkKnows(t, a, b, b.N <= a.Dep[b.R])
			ways := 0
			for _, is := range []bool{impl.Ahead(a, b), impl.Ahead(b, a)} {
				if is {
					ways++
				}
			}
			alike := a.R == b.R && a.N == b.N && impl.ClockSum(a.Dep) == impl.ClockSum(b.Dep)
			if ways == 1 == alike || ways == 2 {
				t.Fatal(a, b, ways)
			}
			for _, c := range acts {
				if impl.Ahead(a, b) && impl.Ahead(b, c) && !impl.Ahead(a, c) {
					t.Fatal("not in a row", a, b, c)
				}
			}
		}
	}
}
