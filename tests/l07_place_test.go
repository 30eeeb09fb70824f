package tests

import (
	"math"
	"math/rand/v2"
	"slices"
	"testing"

	"loop.example/g00717/impl"
)

func TestPlaceConstants(t *testing.T) {
	got := []int{impl.MaxWait, impl.PmOk, impl.PmForm, impl.PmDenied, impl.PmFull}
	got = append(got, impl.HeNew, impl.HeOld, impl.HeWait, impl.HeBad, impl.HeFull)
	got = append(got, impl.FcReg, impl.FcCount, impl.FcItems)
	if want := []int{20, 0, 1, 2, 3, 1, 2, 3, 4, 5, 1, 2, 3}; !slices.Equal(got, want) {
		t.Fatal(got)
	}
}

// said is what Say gives, and heard what Hear gives.
type said struct {
	place impl.Place
	act   impl.Act
	code  int
}

type heard struct {
	place impl.Place
	code  int
}

func samePlace(p, q impl.Place) bool {
	return p.Id == q.Id && p.N == q.N && sameActs(p.L, q.L) && slices.Equal(p.V, q.V) && sameActs(p.Wait, q.Wait)
}

func (s said) same(other said) bool {
	return s.code == other.code && impl.SameAct(s.act, other.act) && samePlace(s.place, other.place)
}

func (h heard) same(other heard) bool {
	return h.code == other.code && samePlace(h.place, other.place)
}

// placeOf is a place that knows l, and where acts wait.
func placeOf(id, n int, l []impl.Act, wait ...impl.Act) impl.Place {
	return impl.Place{Id: id, N: n, L: l, V: plainVerdicts(l, n), Wait: wait}
}

func copyPlace(p impl.Place) impl.Place {
	p.L, p.V, p.Wait = copyActs(p.L), slices.Clone(p.V), copyActs(p.Wait)
	return p
}

// plainPlaceOk says once more what the document asks of a place.
func plainPlaceOk(p impl.Place) bool {
	if p.N < 1 || p.N > 4 || p.Id < 0 || p.Id >= p.N || len(p.Wait) > 20 {
		return false
	}
	if !plainSetOk(p.L, p.N) || !slices.Equal(p.V, plainVerdicts(p.L, p.N)) {
		return false
	}
	for k, a := range p.Wait {
		if !plainActOk(a, p.N) || plainFind(p.L, a.R, a.N) >= 0 || plainFind(p.Wait[:k], a.R, a.N) >= 0 {
			return false
		}
	}
	return true
}

// plainAllowed says of act number k of l whether it may be said with all of l known.
func plainAllowed(l []impl.Act, n, k int) bool {
	switch a := l[k]; a.Kind {
	case 1:
		return a.Actor == 0 || plainHolding(l, plainNow(l, n))[k]
	case 2:
		g := l[plainFind(l, a.GR, a.GN)]
		return g.Kind == 1 && (a.Actor == 0 || a.Actor == g.Actor)
	case 3:
		return a.Actor == 0
	}
	return plainCounts(l, k)
}

func plainSay(p impl.Place, a impl.Act) said {
	if !plainPlaceOk(p) {
		return said{code: 1}
	}
	a = nextOf(p.L, p.N, p.Id, a)
	more := inOrder(append(slices.Clone(p.L), a))
	switch {
	case !plainActOk(a, p.N):
		return said{code: 1}
	case len(p.L) == 60:
		return said{code: 3}
	case !plainAllowed(more, p.N, plainFind(more, a.R, a.N)):
		return said{code: 2}
	}
	p.L, p.V = more, plainVerdicts(more, p.N)
	return said{p, a, 0}
}

func plainHear(p impl.Place, a impl.Act) heard {
	if !plainPlaceOk(p) || !plainActOk(a, p.N) || a.R == p.Id {
		return heard{code: 4}
	}
	more, ok := plainAdd(p.L, p.N, a)
	switch {
	case plainFind(p.L, a.R, a.N) >= 0 || plainFind(p.Wait, a.R, a.N) >= 0:
		return heard{p, 2}
	case ok:
		p.L, p.Wait = plainTake(more, p.N, p.Wait)
		p.V = plainVerdicts(p.L, p.N)
		return heard{p, 1}
	case len(p.L) == 60 || len(p.Wait) == 20:
		return heard{p, 5}
	}
	p.Wait = append(slices.Clone(p.Wait), a)
	return heard{p, 3}
}

// plainTake takes what waits into l, the first one first, and from there anew.
func plainTake(l []impl.Act, n int, wait []impl.Act) ([]impl.Act, []impl.Act) {
	for k := 0; k < len(wait); k++ {
		if more, ok := plainAdd(l, n, wait[k]); ok {
			return plainTake(more, n, slices.Delete(slices.Clone(wait), k, k+1))
		}
	}
	return l, wait
}

// plainLook is for good places.
func plainLook(p impl.Place, actor, facet, bucket, key int) ([]int, int) {
	if actor < 0 || actor > 5 || facet < 1 || facet > 3 || bucket < 0 || bucket > 2 || key < 0 || key > 3 {
		return nil, 1
	}
	if plainRights(p.L, actor, bucket, plainNow(p.L, p.N))%2 == 0 {
		return nil, 2
	}
	x := plainThing(p.L, bucket, key)
	switch {
	case facet == 1 && x.Has:
		return []int{x.Reg}, 0
	case facet == 2:
		return []int{x.Count}, 0
	case facet == 3:
		return x.Items, 0
	}
	return nil, 0
}

func checkPlaceOk(t *testing.T, p impl.Place, want bool) {
	t.Helper()
	g := guardPlace(p)
	if got := impl.PlaceOk(g.place); got != want {
		t.Fatalf("PlaceOk(%+v): %v", p, got)
	}
	g.check(t, "PlaceOk")
}

// checkSaid asks twice, and overwrites what comes back first: neither the second
// nor a third answer may change.
func checkSaid(t *testing.T, what string, want said, give func() said) {
	t.Helper()
	first, second := give(), give()
	if !first.same(want) {
		t.Fatalf("%s: %+v, not %+v", what, first, want)
	}
	overwritePlace(t, first.place, first.act)
	if !second.same(want) || !give().same(want) {
		t.Fatal("answers share memory, or one is kept:", what)
	}
}

func checkSay(t *testing.T, p impl.Place, a impl.Act, want said) {
	t.Helper()
	g, h := guardPlace(p), guardAct(a)
	checkSaid(t, "Say", want, func() said {
		q, b, code := impl.Say(g.place, h.act)
		return said{q, b, code}
	})
	g.check(t, "Say")
	h.check(t, "Say")
}

func checkHear(t *testing.T, p impl.Place, a impl.Act, want heard) {
	t.Helper()
	g, h := guardPlace(p), guardAct(a)
	give := func() heard {
		q, code := impl.Hear(g.place, h.act)
		return heard{q, code}
	}
	first, second := give(), give()
	if !first.same(want) {
		t.Fatalf("Hear(%+v, %+v): %+v, not %+v", p, a, first, want)
	}
	overwritePlace(t, first.place)
	if !second.same(want) || !give().same(want) {
		t.Fatal("answers of Hear share memory, or one is kept")
	}
	g.check(t, "Hear")
	h.check(t, "Hear")
}

func checkLook(t *testing.T, p impl.Place, actor, facet, bucket, key int, want []int, wantCode int) {
	t.Helper()
	g := guardPlace(p)
	change := func(val int) int { return -val - 77 }
	checkList(t, "Look", want, change, func() []int {
		got, code := impl.Look(g.place, actor, facet, bucket, key)
		if code != wantCode {
			t.Fatalf("Look(%+v, %d, %d, %d, %d): %d, not %d", p, actor, facet, bucket, key, code, wantCode)
		}
		return got
	})
	g.check(t, "Look")
}

// checkPlainLook looks at each facet of each thing by each actor, and at what is not there.
func checkPlainLook(t *testing.T, p impl.Place) {
	t.Helper()
	for actor := -1; actor <= impl.Actors; actor++ {
		for facet := impl.FcReg - 1; facet <= impl.FcItems+1; facet++ {
			for bucket := -1; bucket <= impl.Buckets; bucket++ {
				for key := -1; key <= impl.Keys; key++ {
					want, wantCode := plainLook(p, actor, facet, bucket, key)
					got, code := impl.Look(p, actor, facet, bucket, key)
					if code != wantCode || !slices.Equal(got, want) {
						t.Fatalf("Look(%+v, %d, %d, %d, %d): %v, %d", p, actor, facet, bucket, key, got, code)
					}
				}
			}
		}
	}
}

// checkNoPlace asks everything of a place that is not good.
func checkNoPlace(t *testing.T, p impl.Place, acts ...impl.Act) {
	t.Helper()
	checkPlaceOk(t, p, false)
	for _, a := range append(acts, impl.Act{}, does(0), gives(0, 1, 0, 15)) {
		checkSay(t, p, a, said{code: impl.PmForm})
		checkHear(t, p, a, heard{code: impl.HeBad})
	}
	for facet := range impl.FcItems + 2 {
		checkLook(t, p, 0, facet, 0, 0, nil, impl.PmForm)
		checkLook(t, p, 1, facet, 2, 3, nil, impl.PmForm)
	}
}

// post is a place to which one thing after the other happens. The code of each
// answer is given by hand; the rest must be as the plain functions have it.
type post struct {
	t *testing.T
	p impl.Place
}

func newPost(t *testing.T, id, n int) *post {
	p, _ := impl.PlaceNew(id, n)
	return &post{t, p}
}

func (s *post) say(code int, a impl.Act) impl.Act {
	s.t.Helper()
	want := plainSay(s.p, a)
	if want.code != code {
		s.t.Fatalf("the plain function has another code: %d, not %d, for %+v", want.code, code, a)
	}
	checkSay(s.t, s.p, a, want)
	if code == impl.PmOk {
		s.p = copyPlace(want.place)
		checkPlaceOk(s.t, s.p, true)
	}
	return copyAct(want.act)
}

// hear checks, too, how many acts are known and how many wait in the end.
func (s *post) hear(code int, a impl.Act, known, waiting int) {
	s.t.Helper()
	want := plainHear(s.p, a)
	if want.code != code {
		s.t.Fatalf("the plain function has another code: %d, not %d, for %+v", want.code, code, a)
	}
	checkHear(s.t, s.p, a, want)
	if code != impl.HeBad {
		s.p = copyPlace(want.place)
		checkPlaceOk(s.t, s.p, true)
	}
	if len(s.p.L) != known || len(s.p.Wait) != waiting {
		s.t.Fatalf("%d acts known and %d waiting, not %d and %d", len(s.p.L), len(s.p.Wait), known, waiting)
	}
}

// hearAll hears acts of which each one can be taken when it comes.
func (s *post) hearAll(acts ...impl.Act) {
	s.t.Helper()
	for _, a := range acts {
		s.hear(impl.HeNew, a, len(s.p.L)+1, len(s.p.Wait))
	}
}

func (s *post) look(code, actor, facet, bucket, key int, want ...int) {
	s.t.Helper()
	checkLook(s.t, s.p, actor, facet, bucket, key, want, code)
}

func (s *post) checkFlags(want ...bool) {
	s.t.Helper()
	if !slices.Equal(s.p.V, want) {
		s.t.Fatal("other flags", s.p.V, want)
	}
}

func TestPlaceNew(t *testing.T) {
	numbers := []int{math.MinInt, -4, -1, 0, 1, 2, 3, 4, 5, 6, 1 << 32, math.MaxInt}
	for _, n := range numbers {
		for _, id := range numbers {
			want := impl.Place{}
			wantOk := n >= 1 && n <= 4 && id >= 0 && id < n
			if wantOk {
				want = impl.Place{Id: id, N: n}
			}
			p, ok := impl.PlaceNew(id, n)
			if ok != wantOk || !samePlace(p, want) {
				t.Fatalf("PlaceNew(%d, %d): %+v, %v", id, n, p, ok)
			}
			checkPlaceOk(t, impl.Place{Id: id, N: n}, wantOk)
			checkPlaceOk(t, impl.Place{Id: id, N: n, L: []impl.Act{}, V: []bool{}, Wait: []impl.Act{}}, wantOk)
			if !wantOk {
				checkNoPlace(t, impl.Place{Id: id, N: n})
			}
		}
	}
}

// busyPlace knows acts of all kinds of three places, some of which do not count,
// and others wait there.
func busyPlace() impl.Place {
	d := newDiary(3)
	d.write(0, gives(0, 1, 0, allRights))
	d.write(0, gives(0, 2, 1, read+add))
	d.hear(1, 0)
	d.write(1, does(1, toSet(3), toIns(4)))
	d.write(1, gives(1, 3, 0, read))
	d.write(0, takesNumber(0, 1))
	d.write(0, limits(0, 1, read+add))
	d.hear(2, 0)
	d.write(2, does(2, at(1, 1, toAdd(7))))
	d.write(2, does(1, toSet(9)))
	l := d.list()
	d.hear(0, 2)
	d.write(0, does(0, toSet(1)))
	first := d.write(0, gives(0, 4, 2, 7))
	d.hear(2, 0)
	second := d.write(2, does(4, at(2, 2, toAdd(1))))
	return placeOf(1, 3, l, second, first)
}

func TestBusyPlace(t *testing.T) {
	p := busyPlace()
	checkPlaceOk(t, p, true)
	if len(p.L) != 8 || len(p.Wait) != 2 || !slices.Contains(p.V, false) || !slices.Contains(p.V, true) {
		t.Fatal("this says little", p)
	}
	for id := range 3 {
		p.Id = id // acts of the place's own may wait, too: it may have forgotten them
		checkPlaceOk(t, p, true)
	}
}

// noPlaces gives places of which one field alone is not as it should be.
func noPlaces(t *testing.T) []impl.Place {
	good := busyPlace()
	var places []impl.Place
	spoil := func(do func(p *impl.Place)) {
		t.Helper()
		p := copyPlace(good)
		do(&p)
		if plainPlaceOk(p) {
			t.Fatal("this one is good", p)
		}
		places = append(places, p)
	}
	for _, id := range []int{math.MinInt, -3, -1, 3, 4, math.MaxInt} {
		spoil(func(p *impl.Place) { p.Id = id })
	}
	for _, n := range []int{math.MinInt, -1, 0, 1, 2, 4, 5, math.MaxInt} {
		spoil(func(p *impl.Place) { p.N = n })
	}
	for k := range good.V {
		spoil(func(p *impl.Place) { p.V[k] = !p.V[k] })
		spoil(func(p *impl.Place) { p.V = slices.Delete(p.V, k, k+1) })
		spoil(func(p *impl.Place) { p.V = p.V[:k] })
		spoil(func(p *impl.Place) { p.V = slices.Insert(p.V, k, p.V[k]) })
	}
	spoil(func(p *impl.Place) { p.V = append(p.V, true) })
	spoil(func(p *impl.Place) { p.V = append(p.V, false) })
	spoil(func(p *impl.Place) { p.L = nil })
	spoil(func(p *impl.Place) { p.L, p.V = nil, append(p.V[:0], true) })
	for k, a := range good.L {
		spoil(func(p *impl.Place) { p.Wait = append(p.Wait, a) })
		spoil(func(p *impl.Place) { p.Wait = slices.Insert(p.Wait, 0, a) })
		other := copyAct(a)
		other.Actor = 5 - other.Actor // another act of that R and N
		spoil(func(p *impl.Place) { p.Wait = append(p.Wait, other) })
		spoil(func(p *impl.Place) { p.L[k].N++ })
		spoil(func(p *impl.Place) { p.L[k].Kind = 0 })
	}
	for k, a := range good.Wait {
		other := copyAct(a)
		other.Actor = 5 - other.Actor
		for _, twice := range []impl.Act{a, other} {
			spoil(func(p *impl.Place) { p.Wait = append(p.Wait, twice) })
			spoil(func(p *impl.Place) { p.Wait = slices.Insert(p.Wait, 0, twice) })
		}
		for _, bad := range changes(a) {
			if !plainActOk(bad, 3) {
				spoil(func(p *impl.Place) { p.Wait[k] = bad })
			}
		}
	}
	for _, a := range []impl.Act{{}, does(0), act(0, 9, 8), act(0, 9, 8, 0), act(0, 9, 8, 0, 0, 0), act(3, 1, 0, 0, 0)} {
		spoil(func(p *impl.Place) { p.Wait = append(p.Wait, a) })
	}
	spoil(func(p *impl.Place) { p.Wait = append(p.Wait, farActs(19, 0, 3)...) })
	return places
}

func TestNoPlaces(t *testing.T) {
	good := busyPlace()
	for _, p := range noPlaces(t) {
		checkNoPlace(t, p, append(slices.Clone(good.L), good.Wait...)...)
	}
}

// TestPlacesOfSpoiledActs: L is not SetOk, and V has a flag for each act, or none.
func TestPlacesOfSpoiledActs(t *testing.T) {
	good := busyPlace()
	good.Wait = nil
	refused := 0
	for _, l := range spoiled(good.L) {
		p := placeOf(1, 3, l)
		if plainSetOk(l, 3) {
			checkPlaceOk(t, p, true)
			continue
		}
		refused++
		checkPlaceOk(t, p, false)
		for _, value := range []bool{true, false} {
			p.V = make([]bool, len(l))
			fill(p.V, value)
			checkPlaceOk(t, p, false)
		}
		p.V = slices.Clone(good.V)
		checkPlaceOk(t, p, false)
		if refused%10 == 0 {
			checkNoPlace(t, p, good.L[0], nextOf(good.L, 3, 2, does(0)))
		}
	}
	if refused < 100 {
		t.Fatal("this says little", refused)
	}
	full := chain(0, impl.MaxActs, 2)
	checkPlaceOk(t, placeOf(1, 2, full), true)
	more := placeOf(1, 2, chain(0, impl.MaxActs+1, 2))
	more.V = make([]bool, impl.MaxActs+1)
	fill(more.V, true)
	checkNoPlace(t, more, nextOf(full, 2, 0, does(0)))
}

// farActs gives that many acts of a place, none of which can be taken in this
// history: each knows an act that nobody has.
func farActs(count, place, n int) []impl.Act {
	var acts []impl.Act
	for k := range count {
		dep := make([]int, n)
		dep[place] = 1000 + k
		acts = append(acts, act(place, 1001+k, dep...))
	}
	return acts
}

func TestSayNothingYet(t *testing.T) {
	for n := 1; n <= impl.MaxPlaces; n++ {
		for id := range n {
			for actor := range impl.Actors {
				s := newPost(t, id, n)
				use := codeFor(actor == 0)
				s.say(use, gives(actor, 1, 0, allRights))
				s.say(use, gives(actor, actor, 2, 0))
				s = newPost(t, id, n)
				s.say(use, limits(actor, 1, read))
				s = newPost(t, id, n)
				s.say(use, does(actor, toSet(1)))
				s = newPost(t, id, n)
				s.say(impl.PmForm, takes(actor, impl.Act{R: id, N: 1}))
				s.say(impl.PmForm, takes(actor, impl.Act{}))
				a := s.say(impl.PmOk, does(actor)) // needs no right
				if a.R != id || a.N != 1 || !slices.Equal(a.Dep, make([]int, n)) || !s.p.V[0] {
					t.Fatal(a, s.p)
				}
				s.say(impl.PmDenied, takes(actor, a))
			}
		}
	}
}

// TestSayFillsIn: R, N and Dep of what is said are filled in, whatever they were.
func TestSayFillsIn(t *testing.T) {
	p := busyPlace()
	for _, a := range []impl.Act{does(0, toSet(1), toAdd(2)), gives(0, 3, 1, 6), limits(0, 0, 3), takesNumber(0, 2)} {
		want := plainSay(p, a)
		if want.code != impl.PmOk || want.act.R != 1 || want.act.N != 3 || !slices.Equal(want.act.Dep, []int{4, 2, 2}) {
			t.Fatal(want)
		}
		for _, r := range []int{math.MinInt, -1, 0, 1, 2, 3, math.MaxInt} {
			for _, n := range []int{math.MinInt, -1, 0, 1, 3, top + 1, math.MaxInt} {
				a.R, a.N = r, n
				checkSay(t, p, a, want)
			}
		}
		for _, dep := range [][]int{nil, {}, {0}, {4, 2, 2}, {-1, -1, -1}, {9, 9, 9}, {0, 0, 0, 0, 0, 0, math.MaxInt}} {
			a.Dep = dep
			checkSay(t, p, a, want)
		}
	}
}

// TestSayNoAct has acts of which one field alone, that is not filled in, is not
// as it should be.
func TestSayNoAct(t *testing.T) {
	p := busyPlace()
	refused := 0
	for _, a := range []impl.Act{gives(0, 5, 2, 15), gives(0, 0, 0, 0), takesNumber(0, 2), limits(0, 2, 15), does(0, toSet(1), at(2, 3, toIns(1)))} {
		checkSay(t, p, a, plainSay(p, a))
		for _, f := range numberFields[2:] {
			for _, value := range []int{math.MinInt, -1, 0, 1, 2, 3, 5, 6, 15, 16, 1 << 32, math.MaxInt} {
				b := copyAct(a)
				*f.of(&b) = value
				want := plainSay(p, b)
				if want.code == impl.PmForm {
					refused++
				}
				checkSay(t, p, b, want)
			}
		}
		for _, ups := range [][]impl.Up{{{}}, {{Kind: 5}}, {toSet(1), at(3, 0, toSet(1))}, {at(0, 4, toAdd(1))}, {at(-1, 0, toAdd(1))}, make([]impl.Up, 6)} {
			b := copyAct(a)
			b.Ups = ups
			checkSay(t, p, b, said{code: impl.PmForm})
		}
	}
	five := []impl.Up{toSet(1), toSet(2), toSet(3), toSet(4), toSet(5)}
	checkSay(t, p, does(0, append(slices.Clone(five), toSet(6))...), said{code: impl.PmForm})
	s := &post{t, p}
	s.say(impl.PmOk, does(0, five...))
	if refused < 150 {
		t.Fatal("this says little", refused)
	}
}

// TestSayByMask: for each mask that an actor may have, what they may say of
// transactions, and which rights they may hand on.
func TestSayByMask(t *testing.T) {
	set, plus := at(1, 2, toSet(1)), at(1, 2, toAdd(1))
	ins, rem := at(1, 2, toIns(1)), at(1, 2, toRem(1))
	for mask := range 16 {
		s := newPost(t, 0, 2)
		s.say(impl.PmOk, gives(0, 1, 1, mask))
		before := s.p
		for _, c := range []struct {
			ups   []impl.Up
			needs int
		}{
			{nil, 0}, {[]impl.Up{set}, write}, {[]impl.Up{ins}, write}, {[]impl.Up{rem}, write},
			{[]impl.Up{plus}, add}, {[]impl.Up{plus, set}, write + add}, {[]impl.Up{at(0, 2, toSet(1))}, 16},
		} {
			s.p = before
			s.say(codeFor(mask&c.needs == c.needs), does(1, c.ups...))
			s.say(impl.PmOk, does(0, c.ups...))
			s.say(codeFor(c.needs == 0), does(2, c.ups...))
		}
		for given := range 16 {
			s.p = before
			may := mask&hand != 0 && given&mask == given
			s.say(codeFor(may), gives(1, 2, 1, given))
			s.say(impl.PmDenied, gives(1, 2, 0, given)) // of another bucket
			s.say(impl.PmDenied, gives(3, 1, 1, given)) // whoever it is for
			s.say(impl.PmOk, gives(0, 2, 1, given))
		}
	}
}

func codeFor(may bool) int {
	if may {
		return impl.PmOk
	}
	return impl.PmDenied
}

// TestSayGrants: a grant that was handed on, and one whose giver lost the right to.
func TestSayGrants(t *testing.T) {
	s := newPost(t, 1, 2)
	s.say(impl.PmDenied, gives(1, 2, 0, read))
	first := s.say(impl.PmOk, gives(0, 1, 0, allRights))
	second := s.say(impl.PmOk, gives(1, 2, 0, read+write+hand))
	s.say(impl.PmDenied, gives(2, 3, 0, add))
	s.say(impl.PmOk, gives(2, 3, 0, read+hand))
	s.say(impl.PmDenied, gives(3, 4, 0, read+write))
	s.say(impl.PmOk, gives(3, 4, 0, read))
	s.say(impl.PmDenied, gives(4, 5, 0, read))
	s.say(impl.PmOk, gives(3, 0, 0, read)) // to the keeper, too, and to oneself
	s.say(impl.PmOk, gives(3, 3, 0, read+hand))
	s.say(impl.PmOk, does(2, toSet(5)))

	// no ceiling is over handing on
	s.say(impl.PmOk, limits(0, 0, 0))
	s.say(impl.PmDenied, does(2, toSet(6)))
	s.say(impl.PmOk, gives(2, 5, 0, write))
	s.say(impl.PmOk, limits(0, 0, allRights))

	s.say(impl.PmOk, takes(1, second))
	s.say(impl.PmDenied, does(2, toSet(6)))
	s.say(impl.PmDenied, gives(2, 5, 0, read))
	s.say(impl.PmDenied, gives(3, 4, 0, read)) // who has it from them
	s.say(impl.PmDenied, gives(3, 3, 0, read+hand))
	s.say(impl.PmOk, gives(1, 4, 0, read))
	s.say(impl.PmOk, takes(0, first))
	s.say(impl.PmDenied, gives(1, 4, 0, read))
	s.say(impl.PmDenied, gives(1, 4, 0, 0))
	s.say(impl.PmOk, gives(0, 1, 0, hand))
	s.say(impl.PmOk, gives(1, 4, 0, hand))
	s.say(impl.PmDenied, gives(1, 4, 0, read))
	// two grants to one and the same are not taken together for handing on
	s.say(impl.PmOk, gives(0, 1, 0, read))
	s.say(impl.PmDenied, gives(1, 4, 0, read))
	s.say(impl.PmDenied, gives(1, 4, 0, read+hand))
	s.say(impl.PmOk, gives(0, 1, 0, read+hand))
	s.say(impl.PmOk, gives(1, 4, 0, read))
}

func TestSayRevokes(t *testing.T) {
	s := newPost(t, 0, 2)
	first := s.say(impl.PmOk, gives(0, 1, 0, allRights))
	second := s.say(impl.PmOk, gives(1, 2, 0, allRights))
	does1 := s.say(impl.PmOk, does(1, toSet(1)))
	limit := s.say(impl.PmOk, limits(0, 2, read))
	for _, actor := range []int{0, 1, 2, 3} {
		s.say(impl.PmDenied, takes(actor, does1))
		s.say(impl.PmDenied, takes(actor, limit))
		s.say(impl.PmForm, takes(actor, impl.Act{R: 1, N: 1}))
		s.say(impl.PmForm, takes(actor, impl.Act{R: 0, N: len(s.p.L) + 1}))
		s.say(impl.PmForm, takes(actor, impl.Act{R: 0, N: 0}))
	}
	for actor := 1; actor < impl.Actors; actor++ {
		s.say(impl.PmDenied, takes(actor, first))
		if actor != 1 {
			s.say(impl.PmDenied, takes(actor, second)) // be it who has it by that
		}
	}
	before := s.p
	byGiver := s.say(impl.PmOk, takes(1, second))
	s.say(impl.PmDenied, takes(0, byGiver))
	s.say(impl.PmDenied, takes(1, byGiver))
	s.say(impl.PmDenied, does(2, toSet(1)))
	s.say(impl.PmOk, takes(1, second)) // once more, and by another one
	s.say(impl.PmOk, takes(0, second))

	s.p = before
	s.say(impl.PmOk, takes(0, second))
	s.say(impl.PmDenied, does(2, toSet(1)))
	s.say(impl.PmOk, does(1, toSet(1)))
	s.say(impl.PmOk, takes(1, second))

	s.p = before
	s.say(impl.PmOk, takes(0, first))
	s.say(impl.PmDenied, does(2, toSet(1)))
	s.say(impl.PmOk, takes(1, second)) // what gave them the right does not matter
	// a grant that never held can be taken back, too
	selfMade := impl.Act{R: 1, N: 1, Dep: []int{0, 0}, Actor: 4, Kind: impl.KdGrant, To: 5}
	s.hear(impl.HeNew, selfMade, 7, 0)
	s.say(impl.PmDenied, takes(5, selfMade))
	s.say(impl.PmDenied, takes(1, selfMade))
	s.say(impl.PmOk, takes(4, selfMade))
	s.say(impl.PmOk, takes(0, selfMade))
}

func TestSayCeilings(t *testing.T) {
	s := newPost(t, 2, 3)
	s.say(impl.PmOk, gives(0, 1, 0, allRights))
	for actor := 1; actor < impl.Actors; actor++ {
		s.say(impl.PmDenied, limits(actor, 0, allRights))
		s.say(impl.PmDenied, limits(actor, 1, 0))
	}
	s.say(impl.PmOk, limits(0, 0, read+add))
	s.say(impl.PmDenied, does(1, toSet(1)))
	s.say(impl.PmOk, does(1, toAdd(1)))
	s.say(impl.PmOk, does(0, toSet(1)))
	s.say(impl.PmOk, limits(0, 0, write))
	s.say(impl.PmOk, does(1, toSet(1)))
	s.say(impl.PmDenied, does(1, toAdd(1)))
	s.say(impl.PmDenied, limits(1, 0, 0))
	s.checkFlags(true, true, true, true, true, true)
}

// fullPlace knows that many acts of place 0 of three, the first of which lets
// actor 1 read. It is place 1.
func fullPlace(count int, wait ...impl.Act) impl.Place {
	acts := []impl.Act{gives(0, 1, 0, read)}
	for len(acts) < count {
		acts = append(acts, does(0, toAdd(1)))
	}
	d := newDiary(3)
	for _, a := range acts {
		d.write(0, a)
	}
	return placeOf(1, 3, d.list(), wait...)
}

func TestSayFull(t *testing.T) {
	couldBeTaken := impl.Act{R: 2, N: 1, Dep: []int{0, 0, 0}, Kind: impl.KdTxn}
	s := &post{t, fullPlace(impl.MaxActs - 1)}
	s.p.Wait = append(farActs(19, 2, 3), couldBeTaken)
	s.say(impl.PmDenied, does(1, toSet(1)))
	s.say(impl.PmForm, does(1, impl.Up{}))
	s.say(impl.PmOk, does(0, toSet(1)))
	if len(s.p.L) != impl.MaxActs || len(s.p.Wait) != impl.MaxWait {
		t.Fatal("what waits stays", len(s.p.L), len(s.p.Wait))
	}
	for _, a := range []impl.Act{
		does(0), does(0, toSet(1)), does(1), gives(0, 1, 0, 15), limits(0, 0, 0), takesNumber(0, 1),
		does(1, toSet(1)), gives(1, 2, 0, 15), limits(1, 0, 0), takesNumber(1, 1), takesNumber(0, 2), // what would be denied
	} {
		s.say(impl.PmFull, a)
	}
	for _, a := range []impl.Act{{}, does(6), does(1, impl.Up{}), gives(1, 6, 0, 0), limits(1, 3, 0), takesNumber(1, 60)} {
		s.say(impl.PmForm, a)
	}
	s.p.V[0] = false
	checkNoPlace(t, s.p, does(0))
}

// TestSayKeepsWhatWaits: Say takes nothing of what waits, even where it says what
// that has waited for: acts that the place has forgotten.
func TestSayKeepsWhatWaits(t *testing.T) {
	s := newPost(t, 0, 3)
	knowing := act(1, 1, 2, 0, 0)
	s.hear(impl.HeWait, knowing, 0, 1)
	s.say(impl.PmOk, does(0, toSet(1)))
	s.hear(impl.HeOld, knowing, 1, 1)
	s.say(impl.PmOk, does(0, toSet(2)))
	s.hear(impl.HeOld, knowing, 2, 1)
	s.hear(impl.HeWait, act(1, 2, 2, 1, 0), 2, 2) // nor does Hear, where nothing new is known
	s.hear(impl.HeNew, act(2, 1, 0, 0, 0), 5, 0)
}

// TestHearOrders: acts of one history in their order, in the opposite one and in
// mixed ones.
func TestHearOrders(t *testing.T) {
	d := newDiary(3)
	a1 := d.write(0, gives(0, 1, 0, allRights))
	d.hear(1, 0)
	b1 := d.write(1, does(1, toSet(3)))
	a2 := d.write(0, does(1, toSet(4)))
	d.hear(0, 1)
	a3 := d.write(0, takes(0, a1))
	b2 := d.write(1, does(1, toSet(5))) // does not know of a3, and is hidden by it
	l := d.list()
	end := func(s *post) {
		t.Helper()
		if !sameActs(s.p.L, l) || len(s.p.Wait) != 0 {
			t.Fatal("not all is known", s.p)
		}
		s.checkFlags(true, true, true, false, true)
	}
	if !impl.SameAct(l[1], a2) || !impl.SameAct(l[2], b1) || !impl.SameAct(l[3], b2) {
		t.Fatal("not in this order", l)
	}
	s := newPost(t, 2, 3)
	s.hearAll(l...)
	end(s)

	s = newPost(t, 2, 3)
	s.hearAll(a1, b1, b2)
	s.checkFlags(true, true, true)
	s.hearAll(a2, a3)
	end(s)

	s = newPost(t, 2, 3)
	for k, a := range []impl.Act{a3, b2, b1, a2} {
		s.hear(impl.HeWait, a, 0, k+1)
	}
	s.hear(impl.HeNew, a1, 5, 0)
	end(s)

	s = newPost(t, 2, 3)
	s.hear(impl.HeWait, b2, 0, 1)
	s.hear(impl.HeNew, a1, 1, 1)
	s.hear(impl.HeWait, a3, 1, 2)
	s.hear(impl.HeNew, a2, 2, 2) // a3 lacks b1 still
	s.hear(impl.HeNew, b1, 5, 0)
	end(s)
	for _, a := range l {
		s.hear(impl.HeOld, a, 5, 0)
	}
	end(s)

	// each order there is
	var permute func(taken []impl.Act)
	permute = func(taken []impl.Act) {
		if len(taken) == len(l) {
			s := newPost(t, 2, 3)
			for _, a := range taken {
				s.p, _ = impl.Hear(s.p, a)
			}
			end(s)
		}
		for _, a := range l {
			if plainFind(taken, a.R, a.N) < 0 {
				permute(append(slices.Clone(taken), a))
			}
		}
	}
	permute(nil)
}

// TestHearWaits: acts that wait for one, for several, and for each other in a row.
func TestHearWaits(t *testing.T) {
	// all wait for one
	first := act(0, 1, 0, 0, 0, 0)
	s := newPost(t, 3, 4)
	s.hear(impl.HeWait, act(1, 1, 1, 0, 0, 0), 0, 1)
	s.hear(impl.HeWait, act(2, 1, 1, 0, 0, 0), 0, 2)
	s.hear(impl.HeWait, act(0, 2, 1, 0, 0, 0), 0, 3)
	s.hear(impl.HeNew, first, 4, 0)

	// one waits for several
	s = newPost(t, 3, 4)
	s.hear(impl.HeWait, act(2, 2, 2, 1, 1, 0), 0, 1)
	s.hear(impl.HeNew, act(1, 1, 0, 0, 0, 0), 1, 1)
	s.hear(impl.HeNew, act(2, 1, 0, 0, 0, 0), 2, 1)
	s.hear(impl.HeNew, first, 3, 1)
	s.hear(impl.HeNew, act(0, 2, 1, 0, 0, 0), 5, 0)

	// some are taken, and others go on waiting, in their order
	s = newPost(t, 3, 4)
	waiting := []impl.Act{
		act(2, 2, 2, 0, 1, 0), act(1, 2, 1, 1, 0, 0), act(0, 4, 3, 0, 0, 0), act(1, 1, 1, 0, 0, 0), act(2, 4, 0, 0, 3, 0), act(0, 2, 1, 0, 0, 0),
	}
	for k, a := range waiting {
		s.hear(impl.HeWait, a, 0, k+1)
	}
	s.hear(impl.HeNew, first, 4, 3)
	if !sameActs(s.p.Wait, []impl.Act{waiting[0], waiting[2], waiting[4]}) {
		t.Fatal("not what waits", s.p.Wait)
	}
	s.hear(impl.HeWait, act(0, 5, 4, 0, 0, 0), 4, 4)
	s.hear(impl.HeNew, act(2, 1, 0, 0, 0, 0), 6, 3)
	s.hear(impl.HeNew, act(0, 3, 2, 0, 0, 0), 9, 1)
	s.hear(impl.HeNew, act(2, 3, 2, 0, 2, 0), 10, 1) // knows more than number 4, which will wait for ever
	s.hear(impl.HeOld, act(2, 4, 3, 0, 3, 0), 10, 1)

	// each waits for the one behind it, or for the one ahead of it
	for _, turned := range []bool{false, true} {
		row := chain(0, 1+impl.MaxWait, 2)
		wait := slices.Clone(row[1:])
		if turned {
			slices.Reverse(wait)
		}
		s = newPost(t, 1, 2)
		for k, a := range wait {
			s.hear(impl.HeWait, a, 0, k+1)
		}
		s.hear(impl.HeFull, act(0, 22, 21, 0), 0, impl.MaxWait)
		s.hear(impl.HeNew, row[0], impl.MaxWait+1, 0)
		if !sameActs(s.p.L, row) {
			t.Fatal("not the row", s.p.L)
		}
	}
}

// TestHearForEver: an act that knows of another one, but not of all that this one
// knew, is never taken, whatever comes.
func TestHearForEver(t *testing.T) {
	s := newPost(t, 2, 3)
	s.hearAll(act(0, 1, 0, 0, 0), act(1, 1, 1, 0, 0))
	forgetful := act(1, 2, 0, 1, 0)
	s.hear(impl.HeWait, forgetful, 2, 1)
	s.hear(impl.HeNew, act(0, 2, 1, 0, 0), 3, 1)
	s.hear(impl.HeOld, forgetful, 3, 1)
	s.hear(impl.HeOld, act(1, 2, 1, 1, 0), 3, 1) // the right one of that name comes too late
	s.hear(impl.HeWait, act(1, 3, 1, 2, 0), 3, 2)
	s.say(impl.PmOk, does(0))
	if s.p.L[3].R != 2 || !slices.Equal(s.p.L[3].Dep, []int{2, 1, 0}) {
		t.Fatal(s.p.L)
	}
}

// TestHearTwice: an act of a name that L or Wait has is old, be it the same or not.
func TestHearTwice(t *testing.T) {
	for _, wait := range [][]impl.Act{nil, farActs(18, 2, 3)} {
		s := newPost(t, 1, 3)
		s.p.Wait = wait
		known, waits := act(0, 1, 0, 0, 0), act(0, 3, 2, 0, 0)
		s.hear(impl.HeNew, known, 1, len(wait))
		s.hear(impl.HeWait, waits, 1, len(wait)+1)
		for _, a := range []impl.Act{known, waits} {
			s.hear(impl.HeOld, a, 1, len(wait)+1)
			for _, b := range changes(a) {
				switch {
				case !plainActOk(b, 3) || b.R == 1:
					s.hear(impl.HeBad, b, 1, len(wait)+1)
				case b.R == a.R && b.N == a.N:
					s.hear(impl.HeOld, b, 1, len(wait)+1)
				}
			}
			other := does(3, toSet(9))
			other.R, other.N, other.Dep = a.R, a.N, slices.Clone(a.Dep)
			s.hear(impl.HeOld, other, 1, len(wait)+1)
		}
		// another one that can be taken at once, while that name waits
		next := act(0, 2, 1, 0, 0)
		s.hear(impl.HeNew, next, 3, len(wait))
		s.hear(impl.HeOld, waits, 3, len(wait))
	}
	// of a name that waits, another one comes that could be taken
	s := newPost(t, 1, 3)
	s.hear(impl.HeWait, act(0, 1, 0, 0, 1), 0, 1)
	s.hear(impl.HeOld, act(0, 1, 0, 0, 0), 0, 1)
	s.hear(impl.HeNew, act(2, 1, 0, 0, 0), 2, 0)
}

// TestHearBad: acts that are not good for that many places, and the place's own.
func TestHearBad(t *testing.T) {
	p := busyPlace()
	s := &post{t, p}
	for _, a := range p.L {
		if a.R == 1 {
			s.hear(impl.HeBad, a, 8, 2) // its own, that it knows
		} else {
			s.hear(impl.HeOld, a, 8, 2)
		}
	}
	for _, a := range []impl.Act{
		act(1, 3, 3, 2, 2), act(1, 4, 3, 3, 2), nextOf(p.L, 3, 1, does(0, toSet(1))), // its own, that is new
		{}, does(0), act(0, 6, 5), act(0, 6, 5, 0), act(0, 6, 5, 0, 0, 0), act(3, 1, 0, 0, 0), act(-1, 1, 0, 0, 0),
		act(0, 5, 3, 0, 0), act(0, 0, -1, 0, 0), act(0, 5, 4, -1, 0), act(0, 5, 4, 0, top+1), act(0, top+1, top, 0, 0),
		act(math.MinInt, math.MaxInt, 0, 0, 0), {R: 0, N: 5, Dep: []int{4, 2, 2}, Kind: 5},
	} {
		s.hear(impl.HeBad, a, 8, 2)
	}
	// the place's own act that waits, since it was forgotten: it may not be heard, but is taken
	s = newPost(t, 0, 2)
	own := act(0, 1, 0, 1)
	s.p.Wait = []impl.Act{own}
	s.hear(impl.HeBad, own, 0, 1)
	s.hear(impl.HeNew, act(1, 1, 0, 0), 2, 0)
	s.hear(impl.HeBad, own, 2, 0)
	for n := 1; n <= impl.MaxPlaces; n++ {
		for id := range n {
			s := newPost(t, id, n)
			for place := range n {
				if place == id {
					s.hear(impl.HeBad, act(place, 1, make([]int, n)...), len(s.p.L), 0)
				} else {
					s.hearAll(act(place, 1, make([]int, n)...))
				}
			}
		}
	}
}

// TestHearFull: L and Wait with as many acts as they may have, and with one less.
func TestHearFull(t *testing.T) {
	next := func(count int) impl.Act {
		a := does(0, toAdd(1))
		a.R, a.N, a.Dep = 0, count+1, []int{count, 0, 0}
		return a
	}
	other := act(2, 1, 0, 0, 0)
	lacking := act(2, 3, 0, 0, 2)
	far := farActs(impl.MaxWait, 0, 3)

	// L has room for one more: what waits, and could be taken then, stays
	s := &post{t, fullPlace(59, next(60), other)}
	s.hear(impl.HeWait, lacking, 59, 3)
	s.hear(impl.HeNew, next(59), 60, 3)
	s.hear(impl.HeFull, next(61), 60, 3)
	s.hear(impl.HeFull, act(2, 2, 0, 0, 1), 60, 3)
	s.hear(impl.HeOld, other, 60, 3)
	s.hear(impl.HeOld, lacking, 60, 3)
	s.hear(impl.HeOld, next(58), 60, 3)
	s.hear(impl.HeBad, act(1, 1, 0, 0, 0), 60, 3)
	s.hear(impl.HeBad, impl.Act{}, 60, 3)

	// one of those that wait is taken: the first one that can be
	s = &post{t, fullPlace(58, next(60), other, next(59))}
	s.hear(impl.HeNew, next(58), 60, 2)
	if !sameActs(s.p.Wait, []impl.Act{next(60), next(59)}) {
		t.Fatal("not the first one", s.p.Wait)
	}

	// Wait has one less than it may have, and then as many
	s = &post{t, fullPlace(5, far[:19]...)}
	s.hear(impl.HeNew, next(5), 6, 19)
	s.hear(impl.HeWait, lacking, 6, 20)
	s.hear(impl.HeFull, act(2, 4, 0, 0, 3), 6, 20)
	s.hear(impl.HeFull, far[19], 6, 20)
	s.hear(impl.HeOld, lacking, 6, 20)
	s.hear(impl.HeOld, next(2), 6, 20)
	s.hear(impl.HeBad, act(1, 1, 0, 0, 0), 6, 20)
	s.hear(impl.HeNew, next(6), 7, 20) // what can be taken need not wait
	s.hear(impl.HeNew, other, 8, 20)
	s.hear(impl.HeNew, act(2, 2, 0, 0, 1), 10, 19) // and makes room
	s.hear(impl.HeWait, far[19], 10, 20)

	// both are full
	s = &post{t, fullPlace(60, far...)}
	s.hear(impl.HeFull, next(60), 60, 20)
	s.hear(impl.HeFull, lacking, 60, 20)
	s.hear(impl.HeOld, far[0], 60, 20)
	s.hear(impl.HeOld, next(0), 60, 20)
	s.hear(impl.HeBad, act(1, 1, 0, 0, 0), 60, 20)
	s.say(impl.PmFull, does(0))

	// L is full, and Wait is empty
	s = &post{t, fullPlace(60)}
	s.hear(impl.HeFull, next(60), 60, 0)
	s.hear(impl.HeFull, lacking, 60, 0)
	s.hear(impl.HeOld, next(59), 60, 0)
}

// TestHearFirstAgain: with room for few, those are taken that are first, looked
// for anew after each one.
func TestHearFirstAgain(t *testing.T) {
	b59, b60 := act(1, 59, 0, 58, 0), act(1, 60, 0, 59, 0)
	c1, c2 := act(2, 1, 0, 58, 0), act(2, 2, 0, 58, 1)
	for _, x := range []struct {
		count, known int
		wait, stays  []impl.Act
	}{
		{57, 60, []impl.Act{c2, c1, b59}, []impl.Act{b59}}, // c2 could not be taken at first, and is looked at again
		{57, 60, []impl.Act{c1, b59, c2}, []impl.Act{c2}},
		{57, 60, []impl.Act{b59, c1, c2}, []impl.Act{c2}},
		{57, 60, []impl.Act{b60, c2, b59, c1}, []impl.Act{c2, c1}},
		{57, 60, []impl.Act{c2, b60, c1, b59}, []impl.Act{b60, b59}},
		{56, 57, []impl.Act{b60, c2, c1, b59}, []impl.Act{b60, c2, c1, b59}},
	} {
		row := chain(1, 58, 3)
		s := &post{t, placeOf(0, 3, row[:x.count], x.wait...)}
		s.hear(impl.HeNew, row[x.count], x.known, len(x.stays))
		if !sameActs(s.p.Wait, x.stays) {
			t.Fatal("not the first ones", x, s.p.Wait)
		}
	}
}

// TestLookByHand looks at each facet of things that were set, added to and filled,
// and of things that nothing was done to.
func TestLookByHand(t *testing.T) {
	s := newPost(t, 1, 2)
	for facet, want := range map[int][]int{impl.FcReg: nil, impl.FcCount: {0}, impl.FcItems: nil} {
		s.look(impl.PmOk, 0, facet, 0, 0, want...)
		s.look(impl.PmOk, 0, facet, 2, 3, want...)
		s.look(impl.PmDenied, 1, facet, 0, 0)
		s.look(impl.PmDenied, 5, facet, 2, 3)
	}
	s.say(impl.PmOk, gives(0, 5, 2, read))
	s.say(impl.PmOk, does(0, at(2, 3, toSet(7)), at(2, 3, toAdd(-2)), at(2, 3, toIns(9)), at(2, 3, toIns(-9))))
	s.say(impl.PmOk, does(0, at(2, 0, toSet(0)), at(2, 0, toAdd(5)), at(2, 0, toAdd(-5)), at(2, 0, toIns(0)), at(0, 3, toAdd(1))))
	for _, actor := range []int{0, 5} {
		s.look(impl.PmOk, actor, impl.FcReg, 2, 3, 7)
		s.look(impl.PmOk, actor, impl.FcCount, 2, 3, -2)
		s.look(impl.PmOk, actor, impl.FcItems, 2, 3, -9, 9)
		s.look(impl.PmOk, actor, impl.FcReg, 2, 0, 0)
		s.look(impl.PmOk, actor, impl.FcCount, 2, 0, 0)
		s.look(impl.PmOk, actor, impl.FcItems, 2, 0, 0)
		s.look(impl.PmOk, actor, impl.FcReg, 2, 1)
		s.look(impl.PmOk, actor, impl.FcCount, 2, 1, 0)
		s.look(impl.PmOk, actor, impl.FcItems, 2, 1)
		s.look(codeFor(actor == 0), actor, impl.FcReg, 0, 3)
		s.look(codeFor(actor == 0), actor, impl.FcItems, 0, 3)
	}
	s.look(impl.PmOk, 0, impl.FcCount, 0, 3, 1)
	s.look(impl.PmDenied, 5, impl.FcCount, 0, 3)
	s.look(impl.PmDenied, 5, impl.FcCount, 1, 3)
	s.look(impl.PmDenied, 4, impl.FcCount, 2, 3)
	s.say(impl.PmOk, does(0, at(2, 3, toRem(9)), at(2, 3, toRem(-9)), at(2, 3, toAdd(2))))
	s.look(impl.PmOk, 5, impl.FcItems, 2, 3)
	s.look(impl.PmOk, 5, impl.FcCount, 2, 3, 0)
	checkPlainLook(t, s.p)
}

// TestLookNowhere asks for what is not there, also by those who may not read.
func TestLookNowhere(t *testing.T) {
	s := newPost(t, 0, 1)
	s.say(impl.PmOk, does(0, toSet(1), toAdd(2), toIns(3), at(2, 3, toSet(4)), at(2, 3, toIns(5))))
	numbers := []int{math.MinInt, -1 << 32, -3, -2, -1, 0, 1, 2, 3, 4, 5, 6, 7, 256, 1 << 32, 1 << 62, math.MaxInt}
	for _, wrong := range numbers {
		if wrong < 0 || wrong >= impl.Actors {
			s.look(impl.PmForm, wrong, impl.FcReg, 0, 0)
			s.look(impl.PmForm, wrong, impl.FcCount, 2, 3)
		}
		for _, actor := range []int{0, 1, 5} {
			if wrong < impl.FcReg || wrong > impl.FcItems {
				s.look(impl.PmForm, actor, wrong, 0, 0)
				s.look(impl.PmForm, actor, wrong, 2, 3)
			}
			for facet := impl.FcReg; facet <= impl.FcItems; facet++ {
				if wrong < 0 || wrong >= impl.Buckets {
					s.look(impl.PmForm, actor, facet, wrong, 0)
				}
				if wrong < 0 || wrong >= impl.Keys {
					s.look(impl.PmForm, actor, facet, 0, wrong)
				}
			}
		}
	}
	checkPlainLook(t, s.p)
	checkPlainLook(t, busyPlace())
}

// TestLookByRight: who has the right to read is told, and nobody else, whatever
// other rights they have.
func TestLookByRight(t *testing.T) {
	for mask := range 16 {
		for _, ceiling := range []int{allRights, mask, read, allRights - read, 0} {
			s := newPost(t, 0, 2)
			s.say(impl.PmOk, does(0, at(1, 2, toSet(7)), at(1, 2, toAdd(8)), at(1, 2, toIns(9))))
			s.say(impl.PmOk, gives(0, 3, 1, mask))
			s.say(impl.PmOk, limits(0, 1, ceiling))
			for facet := impl.FcReg; facet <= impl.FcItems; facet++ {
				if mask&ceiling&read != 0 {
					s.look(impl.PmOk, 3, facet, 1, 2, 6+facet)
				} else {
					s.look(impl.PmDenied, 3, facet, 1, 2)
				}
				s.look(impl.PmOk, 0, facet, 1, 2, 6+facet)
				s.look(impl.PmDenied, 3, facet, 0, 2)
				s.look(impl.PmDenied, 2, facet, 1, 2)
			}
		}
	}
}

// TestLookTakenBack: behind the right's having been taken back, as soon as that is
// heard; what was written under a right that is gone is hidden from all.
func TestLookTakenBack(t *testing.T) {
	d := newDiary(2)
	given := d.write(0, gives(0, 1, 0, allRights))
	limit := d.write(0, limits(0, 0, read+hand))
	lifted := d.write(0, limits(0, 0, allRights))
	back := d.write(0, takes(0, given))
	again := d.write(0, gives(0, 1, 0, read))

	s := newPost(t, 1, 2)
	s.hearAll(given)
	s.look(impl.PmOk, 1, impl.FcReg, 0, 0)
	s.say(impl.PmOk, does(1, toSet(7), toAdd(1)))
	handed := s.say(impl.PmOk, gives(1, 2, 0, read))
	s.look(impl.PmOk, 1, impl.FcReg, 0, 0, 7)
	s.look(impl.PmOk, 2, impl.FcReg, 0, 0, 7)
	s.hearAll(limit)
	s.checkFlags(true, true, false, true) // given, limit, what was set, handed
	s.look(impl.PmOk, 1, impl.FcReg, 0, 0)
	s.look(impl.PmOk, 1, impl.FcCount, 0, 0, 0)
	s.hearAll(lifted)
	s.checkFlags(true, true, false, true, true)
	s.say(impl.PmOk, does(1, toSet(8)))
	s.look(impl.PmOk, 2, impl.FcReg, 0, 0, 8)
	s.hearAll(back)
	s.look(impl.PmDenied, 1, impl.FcReg, 0, 0)
	s.look(impl.PmDenied, 2, impl.FcReg, 0, 0)
	s.look(impl.PmOk, 0, impl.FcReg, 0, 0)
	s.hearAll(again)
	s.look(impl.PmOk, 1, impl.FcReg, 0, 0)
	s.look(impl.PmDenied, 2, impl.FcReg, 0, 0)
	s.say(impl.PmDenied, takes(2, handed))
	s.say(impl.PmOk, takes(1, handed))
	s.look(impl.PmOk, 1, impl.FcCount, 0, 0, 0)
}

// startOf gives what a place knew when it wrote last, and the rest of l.
func startOf(l []impl.Act, n, place int) ([]impl.Act, []impl.Act) {
	v := make([]int, n)
	if k := plainFind(l, place, plainCount(l, place)); k >= 0 {
		v = slices.Clone(l[k].Dep)
		v[place]++
	}
	return plainCut(l, n, v)
}

// randomWish is what somebody may want to say at a place.
func randomWish(rnd *rand.Rand, p impl.Place) impl.Act {
	if len(p.L) == 0 {
		return gives(0, 1+rnd.IntN(3), 0, allRights)
	}
	d := &diary{known: [][]int{countsOf(p.L, p.N)}, acts: p.L}
	return d.randomAct(rnd, 0)
}

// withSilent gives l as it is where one more place is, that wrote nothing.
func withSilent(l []impl.Act) []impl.Act {
	l = copyActs(l)
	for k := range l {
		l[k].Dep = append(l[k].Dep, 0)
	}
	return l
}

func shuffled(rnd *rand.Rand, l []impl.Act) []impl.Act {
	l = slices.Clone(l)
	rnd.Shuffle(len(l), func(i, j int) { l[i], l[j] = l[j], l[i] })
	return l
}

func TestPlacesAgainstThePlainOnes(t *testing.T) {
	rnd := rand.New(rand.NewPCG(7, 31))
	saying, hearing := map[int]int{}, map[int]int{}
	for turn := range 100 {
		n := 1 + turn%impl.MaxPlaces
		id := rnd.IntN(n)
		l := randomStory(rnd, n, 6+turn%20)
		start, rest := startOf(l, n, id)
		p := placeOf(id, n, start)
		heardOf := append(shuffled(rnd, rest), shuffled(rnd, l)[:3]...)
		for _, a := range heardOf {
			if rnd.IntN(4) == 0 {
				wish := randomWish(rnd, p)
				want := plainSay(p, wish)
				saying[want.code]++
				checkSay(t, p, wish, want)
			}
			if rnd.IntN(6) == 0 {
				bad := changes(a)
				b := bad[rnd.IntN(len(bad))]
				checkHear(t, p, b, plainHear(p, b))
			}
			want := plainHear(p, a)
			hearing[want.code]++
			checkHear(t, p, a, want)
			if want.code != impl.HeBad {
				p = copyPlace(want.place)
			}
			checkPlaceOk(t, p, true)
		}
		if turn%5 == 0 {
			checkPlainLook(t, p)
		}
	}
	for _, code := range []int{impl.PmOk, impl.PmDenied} {
		if saying[code] < 50 {
			t.Fatal("this says little", saying)
		}
	}
	for _, code := range []int{impl.HeNew, impl.HeOld, impl.HeWait, impl.HeBad} {
		if hearing[code] < 50 {
			t.Fatal("this says little", hearing)
		}
	}
}

// TestPromise7Said: what is said is there, knowing all, or it is refused.
func TestPromise7Said(t *testing.T) {
	rnd := rand.New(rand.NewPCG(7, 1))
	codes := map[int]int{}
	for turn := range 60 {
		n := 1 + turn%impl.MaxPlaces
		id := rnd.IntN(n)
		l := randomStory(rnd, n, 8)
		p := placeOf(id, n, l)
		for range 12 {
			wish := randomWish(rnd, p)
			q, a, code := impl.Say(p, wish)
			codes[code]++
			if code != impl.PmOk {
				if !samePlace(q, impl.Place{}) || !impl.SameAct(a, impl.Act{}) {
					t.Fatal("refused, and yet there is something", q, a)
				}
				continue
			}
			wish.R, wish.N, wish.Dep = id, plainCount(p.L, id)+1, countsOf(p.L, n)
			last := len(p.L)
			if !impl.SameAct(a, wish) || len(q.L) != last+1 || !impl.SameAct(q.L[last], a) || !sameActs(q.L[:last], p.L) ||
				!q.V[last] || !slices.Equal(q.V[:last], p.V) || !impl.PlaceOk(q) {
				t.Fatal("not what was said", p, wish, q, a)
			}
			for _, b := range p.L {
				if !impl.Knows(a, b) {
					t.Fatal("does not know all", a, b)
				}
			}
			p = q
		}
	}
	if codes[impl.PmOk] < 200 || codes[impl.PmDenied] < 100 {
		t.Fatal("this says little", codes)
	}
}

// hearInSomeOrder hears acts in a mixed order, some of them twice, and again and
// again those for which there was no room.
func hearInSomeOrder(t *testing.T, rnd *rand.Rand, p impl.Place, acts []impl.Act, codes map[int]int) impl.Place {
	t.Helper()
	for queue := shuffled(rnd, acts); len(queue) > 0; {
		a := queue[0]
		queue = queue[1:]
		q, code := impl.Hear(p, a)
		codes[code]++
		switch code {
		case impl.HeBad:
			t.Fatal("a good act is refused", p, a)
		case impl.HeFull:
			queue = append(queue, a)
		case impl.HeNew, impl.HeWait:
			if rnd.IntN(4) == 0 {
				queue = slices.Insert(queue, rnd.IntN(len(queue)+1), a)
			}
		}
		if code == impl.HeOld && !samePlace(p, q) {
			t.Fatal("something has come of an old act", p, a, q)
		}
		p = q
	}
	return p
}

// TestPromise7InAnyOrder: in whatever order acts are heard, the same is known in
// the end, and judged alike, and nothing waits.
func TestPromise7InAnyOrder(t *testing.T) {
	rnd := rand.New(rand.NewPCG(7, 2))
	codes := map[int]int{}
	hidden := 0
	for turn := range 90 {
		n := 2 + turn%(impl.MaxPlaces-1)
		l := withSilent(randomStory(rnd, n-1, 5+turn%45))
		if turn%3 > 0 {
			l = randomStory(rnd, n, 5+turn%45)
		}
		flags := impl.Verdicts(l, n)
		for id := range n {
			start, rest := startOf(l, n, id)
			p := hearInSomeOrder(t, rnd, placeOf(id, n, start), rest, codes)
			if !sameActs(p.L, l) || !slices.Equal(p.V, flags) || len(p.Wait) != 0 || !impl.PlaceOk(p) {
				t.Fatal("the order tells", l, p)
			}
			for k, a := range start {
				if now := plainFind(l, a.R, a.N); flags[now] != plainCounts(start, k) {
					hidden++
				}
			}
		}
	}
	if codes[impl.HeNew] < 1000 || codes[impl.HeWait] < 1000 || codes[impl.HeOld] < 500 || codes[impl.HeFull] < 30 || hidden < 20 {
		t.Fatal("this says little", codes, hidden)
	}
}

// TestPromise7Together: places that say what they like, and hear what the others
// said now or much later, know the same in the end, and tell the same.
func TestPromise7Together(t *testing.T) {
	rnd := rand.New(rand.NewPCG(7, 3))
	codes := map[int]int{}
	for turn := range 40 {
		n := 2 + turn%(impl.MaxPlaces-1)
		places, unheard, all := make([]impl.Place, n), make([][]impl.Act, n), []impl.Act{}
		for id := range n {
			places[id], _ = impl.PlaceNew(id, n)
		}
		for len(all) < 6+turn%20 {
			id := rnd.IntN(n)
			if q, a, code := impl.Say(places[id], randomWish(rnd, places[id])); code == impl.PmOk {
				places[id], all = q, append(all, a)
				for other := range n {
					if other != id {
						unheard[other] = append(unheard[other], a)
					}
				}
			}
			if rnd.IntN(3) == 0 {
				places[id] = hearInSomeOrder(t, rnd, places[id], unheard[id], codes)
				unheard[id] = nil
			}
		}
		l := inOrder(all)
		for id := range n {
			p := hearInSomeOrder(t, rnd, places[id], unheard[id], codes)
			if !sameActs(p.L, l) || !slices.Equal(p.V, impl.Verdicts(l, n)) || len(p.Wait) != 0 {
				t.Fatal("not the same is known", id, p, l)
			}
		}
	}
	if codes[impl.HeNew] < 300 || codes[impl.HeWait] < 100 {
		t.Fatal("this says little", codes)
	}
}

// TestPromise7Read: who may not read is told nothing, and who may is told what is.
func TestPromise7Read(t *testing.T) {
	rnd := rand.New(rand.NewPCG(7, 4))
	told, untold := 0, 0
	for turn := range 60 {
		n := 1 + turn%impl.MaxPlaces
		l := randomStory(rnd, n, 5+turn%25)
		p := placeOf(rnd.IntN(n), n, l)
		now, things := impl.EyeNow(l, n), impl.Things(l, n)
		for actor := range impl.Actors {
			for number, x := range things {
				bucket, key := number/impl.Keys, number%impl.Keys
				reg, regCode := impl.Look(p, actor, impl.FcReg, bucket, key)
				count, countCode := impl.Look(p, actor, impl.FcCount, bucket, key)
				items, itemsCode := impl.Look(p, actor, impl.FcItems, bucket, key)
				codes := []int{regCode, countCode, itemsCode}
				if impl.Rights(l, n, actor, bucket, now)&read == 0 {
					untold++
					if len(reg)+len(count)+len(items) > 0 || !slices.Equal(codes, []int{impl.PmDenied, impl.PmDenied, impl.PmDenied}) {
						t.Fatal("told something", actor, bucket, key, codes)
					}
					continue
				}
				told++
				if (len(reg) == 1) != x.Has || x.Has && reg[0] != x.Reg || !slices.Equal(count, []int{x.Count}) ||
					!slices.Equal(items, x.Items) || !slices.Equal(codes, []int{0, 0, 0}) {
					t.Fatal("not told what is", actor, x, reg, count, items, codes)
				}
			}
		}
	}
	if told < 500 || untold < 500 {
		t.Fatal("this says little", told, untold)
	}
}
