package tests

import (
	"fmt"
	"math"
	"math/rand/v2"
	"runtime"
	"slices"
	"strings"
	"sync"
	"testing"
	"time"

	"loop.example/g00717/impl"
)

func TestWorldConstants(t *testing.T) {
	got := []int{impl.MaxNotes, impl.MaxSteps, impl.EvSay, impl.EvSend, impl.EvDeliver, impl.EvDrop, impl.EvTwice, impl.EvSync, impl.EvCrash, impl.EvTidy}
	if want := []int{60, 1000, 1, 2, 3, 4, 5, 6, 7, 8}; !slices.Equal(got, want) {
		t.Fatal(got)
	}
}

func sameHouse(g, h impl.House) bool {
	return samePlace(g.P, h.P) && g.Kept == h.Kept && g.Late == h.Late
}

func sameNote(x, y impl.Note) bool {
	return x.To == y.To && impl.SameAct(x.A, y.A)
}

func sameWorld(w, x impl.World) bool {
	return slices.EqualFunc(w.H, x.H, sameHouse) && slices.EqualFunc(w.Net, x.Net, sameNote)
}

func copyWorld(w impl.World) impl.World {
	w.H, w.Net = slices.Clone(w.H), slices.Clone(w.Net)
	for i, h := range w.H {
		w.H[i].P = copyPlace(h.P)
	}
	for i, note := range w.Net {
		w.Net[i].A = copyAct(note.A)
	}
	return w
}

// plainHouseOk says once more what the document asks of house i of n.
func plainHouseOk(h impl.House, i, n int) bool {
	if !plainPlaceOk(h.P) || h.P.Id != i || h.P.N != n {
		return false
	}
	l, length := plainRecover(h.Kept+h.Late, n)
	_, kept := plainRecover(h.Kept, n)
	if length != len(h.Kept+h.Late) || kept != len(h.Kept) || !slices.Equal(countsOf(l, n), countsOf(h.P.L, n)) {
		return false
	}
	for _, a := range h.P.L {
		if !slices.Equal(l[plainFind(l, a.R, a.N)].Dep, a.Dep) {
			return false
		}
	}
	return true
}

func plainWorldOk(w impl.World) bool {
	n := len(w.H)
	if n == 0 || n > 4 || len(w.Net) > 60 {
		return false
	}
	for i, h := range w.H {
		if !plainHouseOk(h, i, n) {
			return false
		}
	}
	for _, note := range w.Net {
		if note.To < 0 || note.To >= n || !plainActOk(note.A, n) {
			return false
		}
	}
	return true
}

// plainTold is the house once it has heard the act.
func plainTold(h impl.House, a impl.Act) impl.House {
	x := plainHear(h.P, a)
	if x.code == 4 {
		return h
	}
	for _, b := range x.place.L {
		if x.code == 1 && plainFind(h.P.L, b.R, b.N) < 0 {
			h.Late += plainLog([]impl.Act{b})
		}
	}
	h.P = x.place
	return h
}

func plainSynced(h impl.House) impl.House {
	return impl.House{P: h.P, Kept: h.Kept + h.Late}
}

func plainCrashed(h impl.House, bytes int) impl.House {
	left := h.Kept
	for i := range len(h.Late) {
		if i < bytes {
			left += h.Late[i : i+1]
		}
	}
	l, length := plainRecover(left, h.P.N)
	return impl.House{P: placeOf(h.P.Id, h.P.N, l), Kept: left[:length]}
}

// plainLacked gives what house j lacks of what house i knows.
func plainLacked(w impl.World, i, j int) []impl.Act {
	n := len(w.H)
	_, lacked := plainCut(w.H[i].P.L, n, countsOf(w.H[j].P.L, n))
	return lacked
}

func plainStep(w impl.World, e impl.Ev) impl.World {
	if !plainWorldOk(w) {
		return impl.World{}
	}
	w = copyWorld(w)
	n := len(w.H)
	ofHouses, ofNotes := e.I >= 0 && e.I < n, e.I >= 0 && e.I < len(w.Net)
	switch {
	case e.Kind == 1 && ofHouses:
		if x := plainSay(w.H[e.I].P, e.A); x.code == 0 {
			w.H[e.I].P = x.place
			w.H[e.I].Late += plainLog([]impl.Act{x.act})
		}
	case e.Kind == 2 && ofHouses && e.J >= 0 && e.J < n:
		w.H[e.I] = plainSynced(w.H[e.I])
		for _, a := range plainLacked(w, e.I, e.J) {
			w.Net = append(w.Net, impl.Note{To: e.J, A: a})
		}
		w.Net = w.Net[:min(60, len(w.Net))]
	case e.Kind == 3 && ofNotes:
		note := w.Net[e.I]
		w.Net = append(w.Net[:e.I:e.I], w.Net[e.I+1:]...)
		w.H[note.To] = plainTold(w.H[note.To], note.A)
	case e.Kind == 4 && ofNotes:
		w.Net = append(w.Net[:e.I:e.I], w.Net[e.I+1:]...)
	case e.Kind == 5 && ofNotes:
		w.Net = append(w.Net, w.Net[e.I])
		w.Net = w.Net[:min(60, len(w.Net))]
	case e.Kind == 6 && ofHouses:
		w.H[e.I] = plainSynced(w.H[e.I])
	case e.Kind == 7 && ofHouses:
		w.H[e.I] = plainCrashed(w.H[e.I], e.J)
	case e.Kind == 8 && ofHouses:
		p := &w.H[e.I].P
		p.L = plainTidy(p.L, n)
		p.V = plainVerdicts(p.L, n)
	}
	return copyWorld(w)
}

func plainSteps(w impl.World, l []impl.Ev) impl.World {
	if !plainWorldOk(w) || len(l) > 1000 {
		return impl.World{}
	}
	for _, e := range l {
		w = plainStep(w, e)
	}
	return w
}

func plainMeet(w impl.World) impl.World {
	if !plainWorldOk(w) {
		return impl.World{}
	}
	w = copyWorld(w)
	w.Net = nil
	for range w.H {
		for i := range w.H {
			for j := range w.H {
				if i == j {
					continue
				}
				w.H[i] = plainSynced(w.H[i])
				for _, a := range plainLacked(w, i, j) {
					w.H[j] = plainTold(w.H[j], a)
				}
			}
		}
	}
	return copyWorld(w)
}

func plainAlike(w impl.World) bool {
	n := len(w.H)
	for _, g := range w.H {
		for _, h := range w.H {
			same := slices.Equal(countsOf(g.P.L, n), countsOf(h.P.L, n))
			if same && !slices.EqualFunc(plainThings(g.P.L, n), plainThings(h.P.L, n), plainSameThing) {
				return false
			}
		}
	}
	return plainWorldOk(w)
}

// checkWorld asks twice, and overwrites what comes back first: neither the second
// nor a third answer may change.
func checkWorld(t *testing.T, what string, want impl.World, give func() impl.World) {
	t.Helper()
	first, second := give(), give()
	if !sameWorld(first, want) {
		t.Fatalf("%s: %+v, not %+v", what, first, want)
	}
	overwriteWorld(t, first)
	if !sameWorld(second, want) || !sameWorld(give(), want) {
		t.Fatal("answers share memory, or one is kept:", what)
	}
}

func checkWorldOk(t *testing.T, w impl.World, want bool) {
	t.Helper()
	g := guardWorld(w)
	if got := impl.WorldOk(g.world); got != want {
		t.Fatalf("WorldOk(%+v): %v", w, got)
	}
	g.check(t, "WorldOk")
}

func checkAlike(t *testing.T, w impl.World, want bool) {
	t.Helper()
	g := guardWorld(w)
	if got := impl.Alike(g.world); got != want {
		t.Fatalf("Alike(%+v): %v", w, got)
	}
	g.check(t, "Alike")
}

func checkStep(t *testing.T, w impl.World, e impl.Ev, want impl.World) {
	t.Helper()
	g, h := guardWorld(w), guardEvs([]impl.Ev{e})
	checkWorld(t, fmt.Sprintf("Step of %+v", e), want, func() impl.World { return impl.Step(g.world, h.list[0]) })
	g.check(t, "Step")
	h.check(t, "Step")
}

func checkSteps(t *testing.T, w impl.World, l []impl.Ev, want impl.World) {
	t.Helper()
	g, h := guardWorld(w), guardEvs(l)
	checkWorld(t, "StepAll", want, func() impl.World { return impl.StepAll(g.world, h.list) })
	g.check(t, "StepAll")
	h.check(t, "StepAll")
}

func checkMeet(t *testing.T, w impl.World, want impl.World) {
	t.Helper()
	g := guardWorld(w)
	checkWorld(t, "Meet", want, func() impl.World { return impl.Meet(g.world) })
	g.check(t, "Meet")
}

// checkNoWorld asks everything of a world that is not good.
func checkNoWorld(t *testing.T, w impl.World) {
	t.Helper()
	checkWorldOk(t, w, false)
	checkAlike(t, w, false)
	checkMeet(t, w, impl.World{})
	checkSteps(t, w, nil, impl.World{})
	for kind := range impl.EvTidy + 2 {
		checkStep(t, w, impl.Ev{Kind: kind, A: does(0)}, impl.World{})
	}
	checkSteps(t, w, []impl.Ev{{Kind: impl.EvSay, A: does(0)}, {Kind: impl.EvSync}, {}}, impl.World{})
}

// withLines gives the world with other lines of one house.
func withLines(w impl.World, house int, kept, late string) impl.World {
	w = copyWorld(w)
	w.H[house].Kept, w.H[house].Late = kept, late
	return w
}

// houseOf knows l, and has kept the lines of that.
func houseOf(id, n int, l []impl.Act, wait ...impl.Act) impl.House {
	return impl.House{P: placeOf(id, n, l, wait...), Kept: plainLog(l)}
}

// worldOf has a house for each of the lists.
func worldOf(lists ...[]impl.Act) impl.World {
	var w impl.World
	for i, l := range lists {
		w.H = append(w.H, houseOf(i, len(lists), l))
	}
	return w
}

func noteTo(to int, a impl.Act) impl.Note { return impl.Note{To: to, A: a} }

// town is a world to which one thing after the other happens. All of what comes
// of it must be as the plain functions have it; the tests say by hand what
// matters of that.
type town struct {
	t *testing.T
	w impl.World
}

func newTown(t *testing.T, n int) *town {
	w, _ := impl.WorldNew(n)
	return &town{t, w}
}

func (s *town) happen(e impl.Ev) {
	s.t.Helper()
	want := plainStep(s.w, e)
	checkStep(s.t, s.w, e, want)
	s.w = want
	checkWorldOk(s.t, s.w, true)
	checkAlike(s.t, s.w, true)
}

// nothing says that nothing comes of it.
func (s *town) nothing(e impl.Ev) {
	s.t.Helper()
	before := s.w
	s.happen(e)
	if !sameWorld(s.w, before) {
		s.t.Fatalf("the plain function lets something happen: %+v", e)
	}
}

func (s *town) say(house int, a impl.Act) impl.Act {
	s.t.Helper()
	before := s.w.H[house]
	s.happen(impl.Ev{Kind: impl.EvSay, I: house, A: a})
	after := s.w.H[house]
	if len(after.P.L) != len(before.P.L)+1 {
		s.t.Fatalf("not said: %+v", a)
	}
	said := after.P.L[len(before.P.L)]
	if after.Late != before.Late+markedText(plainText(said)) || after.Kept != before.Kept {
		s.t.Fatalf("other lines: %q, %q, were %q, %q", after.Kept, after.Late, before.Kept, before.Late)
	}
	return copyAct(said)
}

func (s *town) sayNot(house int, a impl.Act) {
	s.t.Helper()
	s.nothing(impl.Ev{Kind: impl.EvSay, I: house, A: a})
}

func (s *town) send(from, to int) {
	s.t.Helper()
	s.happen(impl.Ev{Kind: impl.EvSend, I: from, J: to})
}

func (s *town) deliver(note int) {
	s.t.Helper()
	s.happen(impl.Ev{Kind: impl.EvDeliver, I: note})
}

// deliverAll empties Net, the first note first.
func (s *town) deliverAll() {
	s.t.Helper()
	for len(s.w.Net) > 0 {
		s.deliver(0)
	}
}

func (s *town) crash(house, bytes int) {
	s.t.Helper()
	s.happen(impl.Ev{Kind: impl.EvCrash, I: house, J: bytes})
}

func (s *town) meet() {
	s.t.Helper()
	want := plainMeet(s.w)
	checkMeet(s.t, s.w, want)
	s.w = want
	checkWorldOk(s.t, s.w, true)
	checkAlike(s.t, s.w, true)
}

// checkNet is given all notes.
func (s *town) checkNet(notes ...impl.Note) {
	s.t.Helper()
	if !slices.EqualFunc(s.w.Net, notes, sameNote) {
		s.t.Fatalf("other notes: %+v, not %+v", s.w.Net, notes)
	}
}

// checkLines is given the acts whose lines are kept, and those whose lines are late.
func (s *town) checkLines(house int, kept, late []impl.Act) {
	s.t.Helper()
	if h := s.w.H[house]; h.Kept != plainLog(kept) || h.Late != plainLog(late) {
		s.t.Fatalf("house %d has other lines: %q, %q, not those of %+v, %+v", house, h.Kept, h.Late, kept, late)
	}
}

// checkActs is given what the house knows, in whatever order, and what waits there.
func (s *town) checkActs(house int, known []impl.Act, waiting ...impl.Act) {
	s.t.Helper()
	p := s.w.H[house].P
	if !sameActs(p.L, inOrder(known)) || !sameActs(p.Wait, waiting) {
		s.t.Fatalf("house %d knows %+v, and %+v waits", house, p.L, p.Wait)
	}
}

func those(acts ...impl.Act) []impl.Act { return acts }

func TestWorldNew(t *testing.T) {
	for _, n := range []int{math.MinInt, -4, -1, 0, 1, 2, 3, 4, 5, 6, 100, 1 << 32, math.MaxInt} {
		want, wantOk := impl.World{}, n >= 1 && n <= 4
		for i := 0; wantOk && i < n; i++ {
			want.H = append(want.H, impl.House{P: impl.Place{Id: i, N: n}})
		}
		checkWorld(t, fmt.Sprint("WorldNew of ", n), want, func() impl.World {
			w, ok := impl.WorldNew(n)
			if ok != wantOk {
				t.Fatalf("WorldNew(%d): %v", n, ok)
			}
			return w
		})
		if !wantOk {
			continue
		}
		checkWorldOk(t, want, true)
		checkAlike(t, want, true)
		checkMeet(t, want, want)
		checkSteps(t, want, nil, want)
		for kind := -1; kind <= impl.EvTidy+1; kind++ {
			checkStep(t, want, impl.Ev{Kind: kind, I: n}, want)
		}
	}
}

func TestSayAtAHouse(t *testing.T) {
	s := newTown(t, 3)
	s.sayNot(0, does(1, toSet(1)))
	first := s.say(1, gives(0, 1, 0, read+write))
	s.checkLines(1, nil, those(first))
	s.checkActs(1, those(first))
	other := s.say(0, limits(0, 0, read+add))
	s.sayNot(0, does(1, toSet(1))) // house 0 knows nothing of the grant
	s.sayNot(2, takes(0, first))
	second := s.say(1, does(1, toSet(1), toIns(2)))
	s.checkLines(1, nil, those(first, second))
	s.happen(impl.Ev{Kind: impl.EvSync, I: 1})
	third := s.say(1, takes(0, first))
	s.checkLines(1, those(first, second), those(third))
	s.checkLines(0, nil, those(other))
	s.checkLines(2, nil, nil)
	s.checkNet()

	if third.R != 1 || third.N != 3 || !slices.Equal(third.Dep, []int{0, 2, 0}) {
		t.Fatal(third)
	}
	for _, a := range []impl.Act{does(1, toSet(2)), gives(1, 2, 0, read), limits(1, 0, 0), takes(1, first), takes(0, second), takes(0, third)} {
		s.sayNot(1, a) // denied
	}
	for _, a := range []impl.Act{{}, does(6), does(-1), does(0, impl.Up{}), does(0, make([]impl.Up, 6)...), gives(0, 6, 0, 0), gives(0, 1, 3, 0), gives(0, 1, 0, 16), limits(0, -1, 0), takes(0, other), takesNumber(0, 0), {Kind: 5}, {Kind: 4, To: 1}} {
		s.sayNot(1, a) // not as an act must be
	}
}

// TestSayFullAtAHouse: MaxActs are said, and not one more.
func TestSayFullAtAHouse(t *testing.T) {
	for n := 1; n <= impl.MaxPlaces; n++ {
		w := worldOf(make([][]impl.Act, n)...)
		w.H[n-1] = houseOf(n-1, n, chain(n-1, impl.MaxActs-1, n))
		s := &town{t, w}
		s.sayNot(n-1, limits(1, 0, 0))
		last := s.say(n-1, does(0, toSet(1)))
		s.checkLines(n-1, chain(n-1, impl.MaxActs-1, n), those(last))
		for _, a := range []impl.Act{does(0), gives(0, 1, 0, 0), limits(0, 0, 0), limits(1, 0, 0), {}} {
			s.sayNot(n-1, a)
		}
		if n > 1 {
			s.w.H[0] = houseOf(0, n, chain(n-1, impl.MaxActs-2, n))
			own := s.say(0, does(0))
			s.send(n-1, 0)
			s.deliverAll() // one that is taken, and one that is not
			s.checkActs(0, append(chain(n-1, impl.MaxActs-1, n), own))
			s.sayNot(0, does(0))
		}
	}
}

// TestSayAnything: the act of an event may have any numbers. R, N and Dep are
// filled in, whatever they are.
func TestSayAnything(t *testing.T) {
	s := newTown(t, 3)
	grant := s.say(1, gives(0, 1, 0, allRights))
	s.say(1, does(1, toSet(1)))
	w, refused, taken := s.w, 0, 0
	for _, a := range []impl.Act{gives(1, 5, 0, 15), takes(0, grant), limits(0, 2, 15), does(1, toSet(1), at(0, 3, toIns(1)))} {
		s.w = w
		want := s.say(1, a)
		for _, dep := range [][]int{nil, {}, {0}, {-1, math.MinInt, math.MaxInt}, {9, 9, 9}, make([]int, 100)} {
			s.w = w
			a.R, a.N, a.Dep = len(dep)-3, -len(dep), dep
			if got := s.say(1, a); !impl.SameAct(got, want) {
				t.Fatal("not filled in", got, want)
			}
		}
		for _, f := range numberFields {
			for _, value := range []int{math.MinInt, -1, 0, 1, 2, 3, 5, 6, 15, 16, 1 << 32, math.MaxInt} {
				b := copyAct(a)
				*f.of(&b) = value
				e := impl.Ev{Kind: impl.EvSay, I: 1, A: b}
				want := plainStep(w, e)
				checkStep(t, w, e, want)
				if sameWorld(want, w) {
					refused++
				} else {
					taken++
				}
			}
		}
	}
	if refused < 200 || taken < 100 {
		t.Fatal("this says little", refused, taken)
	}
}

func TestSend(t *testing.T) {
	s := newTown(t, 3)
	s.send(0, 1)
	s.checkNet()
	a1, a2, a3 := s.say(0, gives(0, 1, 0, allRights)), s.say(0, does(1, toSet(1))), s.say(0, does(0))
	b1 := s.say(1, limits(0, 1, read))
	s.send(0, 2)
	s.checkLines(0, those(a1, a2, a3), nil)
	s.checkLines(1, nil, those(b1))
	s.checkLines(2, nil, nil)
	s.checkNet(noteTo(2, a1), noteTo(2, a2), noteTo(2, a3))
	s.checkActs(2, nil)

	a4 := s.say(0, does(1, toAdd(7)))
	s.send(0, 0) // there is nothing to tell, but what is late is kept
	s.checkLines(0, those(a1, a2, a3, a4), nil)
	s.checkNet(noteTo(2, a1), noteTo(2, a2), noteTo(2, a3))
	s.deliver(0)
	s.deliver(1) // a3 waits for a2
	s.checkActs(2, those(a1), a3)
	s.checkNet(noteTo(2, a2))
	s.send(0, 2) // what waits is not known
	s.checkNet(noteTo(2, a2), noteTo(2, a2), noteTo(2, a3), noteTo(2, a4))
	s.deliverAll()
	s.checkActs(2, those(a1, a2, a3, a4))
	s.send(0, 2)
	s.checkNet()
	s.checkLines(2, nil, those(a1, a2, a3, a4))
	c1 := s.say(2, does(0))
	s.send(2, 0)
	s.checkLines(2, those(a1, a2, a3, a4, c1), nil)
	s.checkNet(noteTo(0, c1))
	s.send(1, 0)
	s.send(1, 2)
	s.send(2, 1) // in the order of L
	s.checkNet(noteTo(0, c1), noteTo(0, b1), noteTo(2, b1), noteTo(1, a1), noteTo(1, a2), noteTo(1, a3), noteTo(1, a4), noteTo(1, c1))

	late := s.say(1, does(0, toIns(5)))
	for _, to := range []int{math.MinInt, -3, -1, 3, 4, math.MaxInt} {
		s.nothing(impl.Ev{Kind: impl.EvSend, I: 1, J: to})
		s.nothing(impl.Ev{Kind: impl.EvSend, I: to, J: 1})
		s.nothing(impl.Ev{Kind: impl.EvSend, I: to, J: to})
	}
	s.checkLines(1, those(b1), those(late))
}

// TestSendByOrder has acts that were heard in another order than that of L.
func TestSendByOrder(t *testing.T) {
	s := newTown(t, 3)
	c1 := s.say(2, does(0, toSet(1)))
	b1 := s.say(1, does(0, toSet(2)))
	a1 := s.say(0, does(0, toSet(3)))
	s.send(2, 0)
	s.send(1, 0)
	s.deliverAll()
	s.checkLines(0, nil, those(a1, c1, b1))
	b2 := s.say(1, does(0, toSet(4)))
	a2 := s.say(0, does(0, toSet(5)))
	s.send(1, 0)
	s.deliver(0)
	s.checkActs(0, those(a1, b1, c1, b2, a2))
	s.send(0, 1)
	s.checkNet(noteTo(1, a1), noteTo(1, c1), noteTo(1, a2))
	s.send(0, 2)
	s.checkNet(noteTo(1, a1), noteTo(1, c1), noteTo(1, a2), noteTo(2, a1), noteTo(2, b1), noteTo(2, b2), noteTo(2, a2))
}

// TestSendUpToMaxNotes stops in the middle of what it would send.
func TestSendUpToMaxNotes(t *testing.T) {
	for there := impl.MaxNotes - 5; there <= impl.MaxNotes; there++ {
		s := newTown(t, 2)
		a1, a2, a3 := s.say(0, does(0, toSet(1))), s.say(0, does(0, toSet(2))), s.say(0, does(0, toSet(3)))
		var notes []impl.Note
		for k := range there {
			notes = append(notes, noteTo(k%2, farActs(there, k%2, 2)[k]))
		}
		s.w.Net = slices.Clone(notes)
		s.send(0, 1)
		notes = append(notes, noteTo(1, a1), noteTo(1, a2), noteTo(1, a3))
		s.checkNet(notes[:min(impl.MaxNotes, len(notes))]...)
		s.checkLines(0, those(a1, a2, a3), nil)
		a4 := s.say(0, does(0))
		s.send(0, 1)
		s.checkLines(0, those(a1, a2, a3, a4), nil)
		notes = append(notes[:min(impl.MaxNotes, len(notes))], noteTo(1, a1), noteTo(1, a2), noteTo(1, a3), noteTo(1, a4))
		s.checkNet(notes[:min(impl.MaxNotes, len(notes))]...)
	}
	s := &town{t, worldOf(chain(0, impl.MaxActs, 2), nil)}
	s.send(0, 1)
	if len(s.w.Net) != impl.MaxNotes || s.w.Net[59].A.N != 60 {
		t.Fatal("not all of it", len(s.w.Net))
	}
	s.deliver(59)
	s.deliver(3)
	s.send(0, 1) // two more, beginning with the first one anew
	if s.w.Net[57].A.N != 59 || s.w.Net[58].A.N != 1 || s.w.Net[59].A.N != 2 {
		t.Fatal(s.w.Net[57:])
	}
}

func TestDeliver(t *testing.T) {
	s := newTown(t, 3)
	a1, a2, a3 := s.say(0, gives(0, 1, 0, allRights)), s.say(0, does(1, toSet(1))), s.say(0, takesNumber(0, 1))
	s.send(0, 1)
	s.send(0, 2)
	s.deliver(1) // a2 waits for a1
	s.checkNet(noteTo(1, a1), noteTo(1, a3), noteTo(2, a1), noteTo(2, a2), noteTo(2, a3))
	s.checkActs(1, nil, a2)
	s.checkLines(1, nil, nil)
	s.deliver(4)
	s.checkActs(2, nil, a3)
	s.deliver(0)
	s.checkNet(noteTo(1, a3), noteTo(2, a1), noteTo(2, a2))
	s.checkActs(1, those(a1, a2))
	s.checkLines(1, nil, those(a1, a2))
	s.happen(impl.Ev{Kind: impl.EvSync, I: 1})
	s.happen(impl.Ev{Kind: impl.EvTwice, I: 0})
	s.deliver(3)
	s.checkActs(1, those(a1, a2, a3))
	s.checkLines(1, those(a1, a2), those(a3))
	before := s.w
	s.deliver(0) // old
	s.checkNet(noteTo(2, a1), noteTo(2, a2))
	if !slices.EqualFunc(s.w.H, before.H, sameHouse) {
		t.Fatal("something comes of an old act")
	}
	s.happen(impl.Ev{Kind: impl.EvTwice, I: 1})
	s.deliver(1)
	s.checkActs(2, nil, a3, a2)
	s.deliver(1) // it waits there
	s.checkActs(2, nil, a3, a2)
	s.deliver(0)
	s.checkActs(2, those(a1, a2, a3))
	s.checkLines(2, nil, those(a1, a2, a3))
	s.checkNet()
	for note := -2; note < 3; note++ {
		s.nothing(impl.Ev{Kind: impl.EvDeliver, I: note})
	}
}

// TestDeliverBad: a note of an act of the house itself is taken away, and nothing
// else comes of it, whether or not it has that act.
func TestDeliverBad(t *testing.T) {
	for n := 1; n <= impl.MaxPlaces; n++ {
		for to := range n {
			s := newTown(t, n)
			own := s.say(to, does(0, toSet(1)))
			far := farActs(1, to, n)[0]
			next := chain(to, 2, n)[1]
			other := copyAct(own)
			other.Ups[0].Val = 9
			houses := s.w.H
			for _, a := range []impl.Act{own, far, next, other} {
				s.w.Net = []impl.Note{noteTo(to, far), noteTo(to, a), noteTo(to, next)}
				s.deliver(1)
				s.checkNet(noteTo(to, far), noteTo(to, next))
				if !slices.EqualFunc(s.w.H, houses, sameHouse) {
					t.Fatal("something comes of an act of the house itself", a)
				}
			}
		}
	}
}

// TestDeliverWaiting has acts that waited come in behind one that was heard: their
// lines stand in the order of L, not in that in which they came.
func TestDeliverWaiting(t *testing.T) {
	d := newDiary(4)
	a1 := d.write(0, gives(0, 1, 0, allRights))
	for place := range 4 {
		d.hear(place, 0)
	}
	c1 := d.write(2, does(1, toSet(1)))
	b1 := d.write(1, does(1, toSet(2)))
	d.hear(1, 2)
	b2 := d.write(1, does(0))
	d.hear(2, 1)
	c2 := d.write(2, takesNumber(0, 1))
	w := worldOf(nil, nil, nil, nil)
	w.Net = []impl.Note{noteTo(3, c2), noteTo(3, c1), noteTo(3, b2), noteTo(3, b1), noteTo(3, a1), noteTo(0, b1)}
	s := &town{t, w}
	for range 4 {
		s.deliver(0)
		s.checkLines(3, nil, nil)
	}
	s.checkActs(3, nil, c2, c1, b2, b1)
	s.deliver(0)
	s.checkActs(3, those(a1, b1, c1, b2, c2))
	s.checkLines(3, nil, those(a1, b1, c1, b2, c2))
	s.checkNet(noteTo(0, b1))

	// one that could have been taken long ago stands ahead of the one that was heard
	ready := act(0, 1, 0, 0, 0, 0)
	w = worldOf(nil, nil, nil, nil)
	w.H[3].P.Wait = those(act(2, 1, 0, 1, 0, 0), ready)
	w.Net = []impl.Note{noteTo(3, act(1, 1, 0, 0, 0, 0))}
	s = &town{t, w}
	s.deliver(0)
	s.checkLines(3, nil, those(ready, act(1, 1, 0, 0, 0, 0), act(2, 1, 0, 1, 0, 0)))
}

// TestDeliverFull: with MaxActs acts nothing more is taken, nor does it wait; with
// MaxWait that wait, what can be taken still is.
func TestDeliverFull(t *testing.T) {
	known := chain(0, impl.MaxActs, 3)
	next, old := act(2, 1, 0, 0, 0), known[5]
	s := &town{t, worldOf(nil, known, nil)}
	s.w.Net = []impl.Note{noteTo(1, next), noteTo(1, farActs(1, 2, 3)[0]), noteTo(1, old), noteTo(2, next)}
	houses := s.w.H
	for left := 3; left > 0; left-- {
		s.deliver(0)
		if !slices.EqualFunc(s.w.H, houses, sameHouse) || len(s.w.Net) != left {
			t.Fatal("full, and yet something happens", left)
		}
	}
	s = &town{t, worldOf(nil, known[:impl.MaxActs-1], nil)}
	s.w.H[1].P.Wait = those(act(2, 1, 2, 0, 0), act(0, 61, 60, 0, 0))
	s.w.Net = []impl.Note{noteTo(1, known[59])}
	s.deliver(0)
	s.checkActs(1, known, act(2, 1, 2, 0, 0), act(0, 61, 60, 0, 0))
	s.checkLines(1, known[:59], known[59:])

	wait := farActs(impl.MaxWait-1, 0, 3)
	s = &town{t, worldOf(nil, nil, nil)}
	s.w.H[1].P.Wait = slices.Clone(wait)
	last, more := act(2, 2, 0, 0, 1), act(2, 3, 0, 0, 2)
	s.w.Net = []impl.Note{noteTo(1, last), noteTo(1, more), noteTo(1, last), noteTo(1, act(0, 1, 0, 0, 0)), noteTo(1, act(2, 1, 0, 0, 0)), noteTo(1, more)}
	s.deliver(0)
	s.checkActs(1, nil, append(slices.Clone(wait), last)...)
	s.deliver(0)
	s.deliver(0)
	s.checkActs(1, nil, append(slices.Clone(wait), last)...)
	s.deliver(0)
	s.deliver(0)
	s.checkActs(1, those(act(0, 1, 0, 0, 0), act(2, 1, 0, 0, 0), last), wait...)
	s.deliver(0)
	s.checkLines(1, nil, those(act(0, 1, 0, 0, 0), act(2, 1, 0, 0, 0), last, more))
}

func TestDropAndTwice(t *testing.T) {
	s := newTown(t, 3)
	a1, a2 := s.say(0, does(0, toSet(1))), s.say(0, does(0, toSet(2)))
	for _, kind := range []int{impl.EvDeliver, impl.EvDrop, impl.EvTwice} {
		for note := -1; note < 4; note++ {
			s.nothing(impl.Ev{Kind: kind, I: note})
		}
	}
	s.send(0, 1)
	s.send(0, 2)
	houses := s.w.H
	s.happen(impl.Ev{Kind: impl.EvTwice, I: 1})
	s.checkNet(noteTo(1, a1), noteTo(1, a2), noteTo(2, a1), noteTo(2, a2), noteTo(1, a2))
	s.happen(impl.Ev{Kind: impl.EvTwice, I: 4})
	s.happen(impl.Ev{Kind: impl.EvTwice, I: 2})
	s.checkNet(noteTo(1, a1), noteTo(1, a2), noteTo(2, a1), noteTo(2, a2), noteTo(1, a2), noteTo(1, a2), noteTo(2, a1))
	s.happen(impl.Ev{Kind: impl.EvDrop, I: 1})
	s.checkNet(noteTo(1, a1), noteTo(2, a1), noteTo(2, a2), noteTo(1, a2), noteTo(1, a2), noteTo(2, a1))
	s.happen(impl.Ev{Kind: impl.EvDrop, I: 5})
	s.happen(impl.Ev{Kind: impl.EvDrop, I: 0})
	s.checkNet(noteTo(2, a1), noteTo(2, a2), noteTo(1, a2), noteTo(1, a2))
	for _, note := range []int{math.MinInt, -1, 4, 5, math.MaxInt} {
		for _, kind := range []int{impl.EvDeliver, impl.EvDrop, impl.EvTwice} {
			s.nothing(impl.Ev{Kind: kind, I: note})
		}
	}
	for len(s.w.Net) > 0 {
		s.happen(impl.Ev{Kind: impl.EvDrop, I: len(s.w.Net) / 2})
	}
	if !slices.EqualFunc(s.w.H, houses, sameHouse) {
		t.Fatal("something comes of what was lost")
	}
	s.send(0, 1)
	for len(s.w.Net) < impl.MaxNotes {
		s.happen(impl.Ev{Kind: impl.EvTwice, I: len(s.w.Net) - 2})
	}
	if s.w.Net[58].A.N != 1 || s.w.Net[59].A.N != 2 {
		t.Fatal("the last one is put behind", s.w.Net[58:])
	}
	for note := range impl.MaxNotes {
		s.nothing(impl.Ev{Kind: impl.EvTwice, I: note})
	}
	s.happen(impl.Ev{Kind: impl.EvDrop, I: 59})
	s.happen(impl.Ev{Kind: impl.EvTwice, I: 0})
	s.nothing(impl.Ev{Kind: impl.EvTwice, I: 1})
	s.deliver(59)
	s.deliver(58)
	s.checkActs(1, those(a1))
}

func TestSync(t *testing.T) {
	s := newTown(t, 2)
	s.nothing(impl.Ev{Kind: impl.EvSync, I: 0})
	a1, b1 := s.say(0, does(0)), s.say(1, does(0))
	s.happen(impl.Ev{Kind: impl.EvSync, I: 0})
	s.checkLines(0, those(a1), nil)
	s.checkLines(1, nil, those(b1))
	s.nothing(impl.Ev{Kind: impl.EvSync, I: 0})
	a2 := s.say(0, does(0))
	a3 := s.say(0, does(0))
	s.checkLines(0, those(a1), those(a2, a3))
	s.happen(impl.Ev{Kind: impl.EvSync, I: 0})
	s.checkLines(0, those(a1, a2, a3), nil)
	for _, house := range []int{math.MinInt, -1, 2, 3, math.MaxInt} {
		s.nothing(impl.Ev{Kind: impl.EvSync, I: house})
	}
}

// TestCrash cuts Late off at each of its bytes, and beyond both ends.
func TestCrash(t *testing.T) {
	s := newTown(t, 2)
	b1 := s.say(1, gives(0, 1, 0, allRights))
	a1, a2 := s.say(0, does(0, toSet(-1))), s.say(0, limits(0, 0, read+add))
	s.send(0, 1)
	a3, a4 := s.say(0, does(0, toIns(5), toIns(-6))), s.say(0, gives(0, 1, 1, read))
	s.send(1, 0)
	s.happen(impl.Ev{Kind: impl.EvDeliver, I: 2}) // b1, which stands ahead of a2 in L, and behind a4 in Late
	s.w.H[0].P.Wait = farActs(3, 1, 2)
	s.checkActs(0, those(a1, b1, a2, a3, a4), farActs(3, 1, 2)...)
	s.checkLines(0, those(a1, a2), those(a3, a4, b1))
	w := s.w
	late := []impl.Act{a3, a4, b1}
	length := len(w.H[0].Late)
	for _, bytes := range []int{math.MinInt, math.MinInt + 1, -length, -2, -1, length + 1, length + 2, 2 * length, 1 << 32, math.MaxInt} {
		s.w = w
		s.crash(0, bytes)
		if bytes < 0 {
			s.checkActs(0, those(a1, a2))
			s.checkLines(0, those(a1, a2), nil)
		} else {
			s.checkActs(0, those(a1, a2, a3, a4, b1))
			s.checkLines(0, those(a1, a2, a3, a4, b1), nil)
		}
	}
	seen := map[int]int{}
	for bytes := range length + 1 {
		s.w = w
		s.crash(0, bytes)
		whole := 0
		for whole < len(late) && len(plainLog(late[:whole+1])) <= bytes {
			whole++
		}
		left := append(those(a1, a2), late[:whole]...)
		s.checkActs(0, left)
		s.checkLines(0, left, nil)
		if !slices.EqualFunc(s.w.Net, w.Net, sameNote) || !sameHouse(s.w.H[1], w.H[1]) {
			t.Fatal("a crash is seen elsewhere", s.w)
		}
		seen[whole]++
	}
	if seen[0] < 10 || seen[1] < 10 || seen[2] < 10 || seen[3] != 1 {
		t.Fatal("this says little", seen)
	}
	for _, house := range []int{math.MinInt, -1, 2, 3, math.MaxInt} {
		s.nothing(impl.Ev{Kind: impl.EvCrash, I: house, J: 5})
	}
	s.w = w
	s.crash(1, 0) // it has sent all that it knows
	s.checkActs(1, those(b1))
	s.checkLines(1, those(b1), nil)
}

// TestCrashAndOn: what was lost was told to nobody, and its numbers are taken anew.
func TestCrashAndOn(t *testing.T) {
	s := newTown(t, 2)
	a1 := s.say(0, does(0, toSet(1)))
	s.send(0, 1)
	s.deliver(0)
	s.say(0, does(0, toSet(2)))
	s.say(0, does(0, toSet(3)))
	s.crash(0, 10)
	s.checkActs(0, those(a1))
	a2 := s.say(0, does(0, toSet(4)))
	if a2.N != 2 {
		t.Fatal(a2)
	}
	s.checkLines(0, those(a1), those(a2))
	s.crash(1, 3) // all that it has heard is lost
	s.checkActs(1, nil)
	s.checkLines(1, nil, nil)
	s.send(0, 1)
	s.checkNet(noteTo(1, a1), noteTo(1, a2))
	s.deliver(1)
	s.checkActs(1, nil, a2)
	s.crash(1, 0) // and what has waited
	s.checkActs(1, nil)
	s.crash(0, 0)
	s.checkActs(0, those(a1, a2))
	s.meet()
	s.checkActs(1, those(a1, a2))
	s.checkLines(1, those(a1, a2), nil) // ahead of its own turn to tell it kept them
}

// TestCrashJudgesAnew: without what was lost other acts count.
func TestCrashJudgesAnew(t *testing.T) {
	s := newTown(t, 2)
	grant := s.say(0, gives(0, 1, 0, write))
	s.send(0, 1)
	s.deliver(0)
	b1 := s.say(1, does(1, toSet(5)))
	s.send(1, 0)
	s.happen(impl.Ev{Kind: impl.EvSync, I: 0})
	a2 := s.say(0, takes(0, grant))
	s.deliver(0)
	s.checkLines(0, those(grant), those(a2, b1))
	if !slices.Equal(s.w.H[0].P.V, []bool{true, true, false}) {
		t.Fatal("a right taken back does not hide", s.w.H[0].P)
	}
	s.crash(0, 0)
	s.checkActs(0, those(grant))
	s.send(1, 0) // once more
	s.deliver(0)
	s.checkActs(0, those(grant, b1))
	if !slices.Equal(s.w.H[0].P.V, []bool{true, true}) {
		t.Fatal("what was lost still hides", s.w.H[0].P)
	}
	s.crash(0, len(plainLog(those(b1))))
	s.checkActs(0, those(grant, b1))
	if !slices.Equal(s.w.H[0].P.V, []bool{true, true}) {
		t.Fatal("what was lost still hides", s.w.H[0].P)
	}
}

func TestTidyAtAHouse(t *testing.T) {
	s := newTown(t, 2)
	grant := s.say(0, gives(0, 1, 0, write))
	put := s.say(0, does(1, toIns(7), toSet(1)))
	s.send(0, 1)
	s.deliverAll()
	s.happen(impl.Ev{Kind: impl.EvTidy, I: 0})
	s.checkActs(0, those(grant, put)) // nobody has said yet that house 1 knows of it
	out := s.say(1, does(0, toRem(7), toSet(2), toAdd(3)))
	hidden := s.say(0, does(1, toIns(8)))
	took := s.say(1, takes(0, grant))
	s.meet()
	last0, last1 := s.say(0, does(0)), s.say(1, does(0))
	s.meet()
	flags := slices.Clone(s.w.H[0].P.V)
	if !slices.Equal(flags, []bool{true, true, false, true, true, true, true}) {
		t.Fatal("other flags", flags)
	}
	before := s.w
	s.happen(impl.Ev{Kind: impl.EvTidy, I: 0})
	less := copyActs(those(grant, put, hidden, out, took, last0, last1))
	less[1].Ups, less[2].Ups, less[3].Ups = nil, nil, left(toSet(2), toAdd(3))
	s.checkActs(0, less)
	if !slices.Equal(s.w.H[0].P.V, []bool{true, true, true, true, true, true, true}) {
		t.Fatal("what has no ups counts", s.w.H[0].P.V)
	}
	if s.w.H[0].Kept != before.H[0].Kept || s.w.H[0].Late != before.H[0].Late || !sameHouse(s.w.H[1], before.H[1]) {
		t.Fatal("more than acts was tidied", s.w)
	}
	s.nothing(impl.Ev{Kind: impl.EvTidy, I: 0})
	s.checkActs(1, those(grant, put, hidden, out, took, last0, last1))
	tidied := s.w
	s.meet() // one has tidied, and the other has not
	s.checkActs(0, less)
	s.happen(impl.Ev{Kind: impl.EvTidy, I: 1})
	s.checkActs(1, less)

	s.w = tidied
	s.crash(0, math.MaxInt) // its lines have the acts as they were written
	s.checkActs(0, those(grant, put, hidden, out, took, last0, last1))
	if !slices.Equal(s.w.H[0].P.V, flags) {
		t.Fatal("other flags", s.w.H[0].P.V)
	}
	for _, house := range []int{math.MinInt, -1, 2, 3, math.MaxInt} {
		s.nothing(impl.Ev{Kind: impl.EvTidy, I: house})
	}
}

// TestTidyAndOn: what waits stays, acts are said and heard by a house that has
// tidied, and their lines go on behind those of the untidied ones.
func TestTidyAndOn(t *testing.T) {
	s := newTown(t, 1)
	a1, a2 := s.say(0, does(0, toSet(1))), s.say(0, does(0, toSet(2)))
	s.happen(impl.Ev{Kind: impl.EvTidy})
	less := copyAct(a1)
	less.Ups = nil
	s.checkActs(0, those(less, a2))
	a3 := s.say(0, does(0, toSet(3)))
	s.checkLines(0, nil, those(a1, a2, a3))
	s.crash(0, len(plainLog(those(a1, a2, a3)))-1)
	s.checkActs(0, those(a1, a2))
	s.happen(impl.Ev{Kind: impl.EvTidy})
	s.say(0, does(0, toSet(4)))
	s.happen(impl.Ev{Kind: impl.EvTidy})
	s.crash(0, 0)
	s.checkActs(0, those(a1, a2))

	s = newTown(t, 2)
	s.w.H[0].P.Wait = farActs(5, 1, 2)
	a1 = s.say(0, does(0, toSet(1), toSet(2)))
	b1 := act(1, 1, 1, 0)
	s.w.Net = []impl.Note{noteTo(0, b1)}
	s.deliver(0)
	s.happen(impl.Ev{Kind: impl.EvTidy})
	less = copyAct(a1)
	less.Ups = less.Ups[1:]
	s.checkActs(0, those(less, b1), farActs(5, 1, 2)...)
	a2 = s.say(0, does(0))
	s.happen(impl.Ev{Kind: impl.EvTidy})
	s.checkActs(0, those(less, b1, a2), farActs(5, 1, 2)...)
	s.checkLines(0, nil, those(a1, b1, a2))
	s.send(0, 1) // a house that forgot its own acts, as no house does that crashes, is told what is left
	s.checkNet(noteTo(1, less), noteTo(1, b1), noteTo(1, a2))
	s.deliver(0)
	s.checkLines(1, nil, those(less))
}

// TestNothingHappens at kinds that are none, and where no such house or note is.
func TestNothingHappens(t *testing.T) {
	full := newTown(t, 3)
	full.say(0, does(0, toSet(1)))
	full.send(0, 1)
	full.say(0, does(0, toSet(2)))
	full.say(1, does(0, toIns(2)))
	full.w.H[1].P.Wait = farActs(2, 2, 3)
	numbers := []int{math.MinInt, math.MinInt + 1, -2, -1, 0, 1, 2, 3, 4, 8, 1 << 32, math.MaxInt}
	acts := []impl.Act{{}, does(0), gives(9, -9, 9, -9), {R: -1, N: math.MinInt, Dep: make([]int, 7), Ups: make([]impl.Up, 7)}}
	for _, s := range []*town{full, newTown(t, 1), newTown(t, 4)} {
		for _, kind := range []int{math.MinInt, -8, -1, 0, 9, 10, 100, 1<<32 + 1, math.MaxInt} {
			for i, number := range numbers {
				s.nothing(impl.Ev{Kind: kind, I: number, J: numbers[len(numbers)-1-i], A: acts[i%len(acts)]})
			}
		}
		for kind := impl.EvSay; kind <= impl.EvTidy; kind++ {
			choices := len(s.w.H)
			if kind >= impl.EvDeliver && kind <= impl.EvTwice {
				choices = len(s.w.Net)
			}
			for i, number := range numbers {
				if number < 0 || number >= choices {
					s.nothing(impl.Ev{Kind: kind, I: number, A: acts[i%2]})
				}
			}
		}
	}
}

// TestNumbersThatSayNothing: J matters to two kinds alone, and A to one.
func TestNumbersThatSayNothing(t *testing.T) {
	s := newTown(t, 2)
	s.say(0, does(0, toSet(1), toSet(2)))
	s.send(0, 1)
	s.say(1, does(0, toSet(3)))
	for kind := impl.EvSay; kind <= impl.EvTidy; kind++ {
		e := impl.Ev{Kind: kind, A: does(0, toAdd(1))}
		want := plainStep(s.w, e)
		for _, number := range []int{math.MinInt, -1, 1, 2, 60, math.MaxInt} {
			if kind != impl.EvSend && kind != impl.EvCrash {
				e.J = number
			}
			if kind != impl.EvSay {
				e.A = impl.Act{R: number, N: number, Dep: []int{number}, Actor: number, Kind: number, Ups: []impl.Up{{Kind: number}}}
			}
			checkStep(t, s.w, e, want)
		}
	}
}

// goodWorld has houses that know acts of all kinds, some of which wait, notes,
// and lines of both sorts; house 1 has tidied.
func goodWorld(t *testing.T) impl.World {
	s := newTown(t, 3)
	grant := s.say(0, gives(0, 1, 0, allRights))
	s.say(0, does(1, toSet(3), toIns(4)))
	s.meet()
	s.say(1, does(1, toRem(4), toSet(5)))
	s.say(2, limits(0, 1, read))
	s.meet()
	for house := range 3 {
		s.say(house, does(0))
	}
	s.meet()
	s.happen(impl.Ev{Kind: impl.EvTidy, I: 1})
	s.say(0, takes(0, grant))
	s.say(0, does(0, toAdd(1)))
	s.say(1, does(1, toSet(6)))
	s.say(1, does(1, toSet(7)))
	s.send(0, 1)
	s.send(0, 2)
	s.happen(impl.Ev{Kind: impl.EvTwice, I: 3})
	s.deliver(4)
	s.deliver(0)
	s.say(1, does(0, toIns(9)))
	s.say(0, does(0))
	for _, h := range s.w.H[:2] {
		if h.Kept == "" || h.Late == "" {
			t.Fatal("this says little", h)
		}
	}
	if len(s.w.H[2].P.Wait) != 1 || impl.UpCount(s.w.H[1].P.L[:4]) == impl.UpCount(s.w.H[0].P.L[:4]) || len(s.w.Net) != 3 {
		t.Fatal("this says little", s.w)
	}
	return s.w
}

func TestGoodWorld(t *testing.T) {
	w := goodWorld(t)
	checkWorldOk(t, w, true)
	checkAlike(t, w, true)
	checkMeet(t, w, plainMeet(w))
	for kind := range impl.EvTidy + 2 {
		for i := range 4 {
			for j := range 4 {
				e := impl.Ev{Kind: kind, I: i, J: 30 * j, A: does(0, toSet(j))}
				checkStep(t, w, e, plainStep(w, e))
			}
		}
	}
}

// TestNoWorlds spoils one thing of a good world at a time.
func TestNoWorlds(t *testing.T) {
	good := goodWorld(t)
	spoil := func(do func(w *impl.World)) {
		t.Helper()
		w := copyWorld(good)
		do(&w)
		if plainWorldOk(w) {
			t.Fatalf("this one is good: %+v", w)
		}
		checkNoWorld(t, w)
	}
	checkNoWorld(t, impl.World{})
	checkNoWorld(t, impl.World{H: []impl.House{}, Net: []impl.Note{}})
	checkNoWorld(t, impl.World{Net: []impl.Note{noteTo(0, act(0, 1, 0))}})
	checkNoWorld(t, impl.World{H: make([]impl.House, 1)})
	checkNoWorld(t, impl.World{H: make([]impl.House, 3)})
	checkNoWorld(t, worldOf(nil, nil, nil, nil, nil))
	checkNoWorld(t, worldOf(make([][]impl.Act, 100)...))
	spoil(func(w *impl.World) { w.H = nil })
	spoil(func(w *impl.World) { w.H = w.H[:2] })
	spoil(func(w *impl.World) { w.H = w.H[1:] })
	spoil(func(w *impl.World) { w.H = append(w.H, w.H[2]) })
	spoil(func(w *impl.World) { w.H = append(w.H, houseOf(3, 4, nil)) })
	spoil(func(w *impl.World) { w.H = append(w.H, houseOf(3, 3, nil)) })
	spoil(func(w *impl.World) { w.H[0], w.H[1] = w.H[1], w.H[0] })
	for i := range good.H {
		for _, number := range []int{math.MinInt, -1, 0, 1, 2, 3, 4, 5, math.MaxInt} {
			if number != i {
				spoil(func(w *impl.World) { w.H[i].P.Id = number })
			}
			if number != 3 {
				spoil(func(w *impl.World) { w.H[i].P.N = number })
				spoil(func(w *impl.World) { w.H[i] = impl.House{P: impl.Place{Id: i, N: number}} })
			}
		}
		spoil(func(w *impl.World) { w.H[i] = impl.House{} })
		spoil(func(w *impl.World) { w.H[i].P.L = nil })
		spoil(func(w *impl.World) { w.H[i].P.L, w.H[i].P.V = nil, nil })
		spoil(func(w *impl.World) { w.H[i].P.V = nil })
		spoil(func(w *impl.World) { w.H[i].P.V[0] = false })
		spoil(func(w *impl.World) { w.H[i].P.V = append(w.H[i].P.V, true) })
		spoil(func(w *impl.World) { w.H[i].P.L[2].Actor = 6 })
		spoil(func(w *impl.World) { w.H[i].P.Wait = append(w.H[i].P.Wait, impl.Act{}) })
		spoil(func(w *impl.World) { w.H[i].P.Wait = append(w.H[i].P.Wait, w.H[i].P.L[1]) })
		spoil(func(w *impl.World) { w.H[i].P.Wait = farActs(impl.MaxWait+1, 0, 3) })
	}
	for _, to := range []int{math.MinInt, -1, 3, 4, math.MaxInt} {
		for k := range good.Net {
			spoil(func(w *impl.World) { w.Net[k].To = to })
		}
	}
	for k, note := range good.Net {
		for _, a := range changes(note.A) {
			if !plainActOk(a, 3) {
				w := copyWorld(good)
				w.Net[k].A = a
				checkWorldOk(t, w, false)
				checkStep(t, w, impl.Ev{}, impl.World{})
			}
		}
		spoil(func(w *impl.World) { w.Net[k] = impl.Note{} })
		spoil(func(w *impl.World) { w.Net[k].A = act(0, 1, 0, 0) })
		spoil(func(w *impl.World) { w.Net[k].A = act(0, 1, 0, 0, 0, 0) })
	}
	spoil(func(w *impl.World) { w.Net = slices.Repeat(w.Net[:1], impl.MaxNotes+1) })
	spoil(func(w *impl.World) { w.Net = slices.Repeat(w.Net[:1], 5000) })
	spoil(func(w *impl.World) {
		w.Net = append(slices.Repeat(w.Net[:1], impl.MaxNotes-1), noteTo(3, w.Net[0].A))
	})
	many := copyWorld(good)
	many.Net = nil
	for len(many.Net) < impl.MaxNotes {
		many.Net = append(many.Net, noteTo(len(many.Net)%3, history(3, 60, 1)[len(many.Net)]))
	}
	checkWorldOk(t, many, true)
	checkStep(t, many, impl.Ev{}, many)
}

// TestNoLines has lines that are not those of what the houses know.
func TestNoLines(t *testing.T) {
	good := goodWorld(t)
	asked := 0
	spoil := func(house int, kept, late string) {
		t.Helper()
		w := copyWorld(good)
		w.H[house].Kept, w.H[house].Late = kept, late
		if plainWorldOk(w) {
			t.Fatalf("this one is good: %q, %q", kept, late)
		}
		if checkWorldOk(t, w, false); asked%20 == 0 {
			checkNoWorld(t, w)
		}
		asked++
	}
	for i, h := range good.H {
		kept, late := h.Kept, h.Late
		all := kept + late
		spoil(i, "", "")
		spoil(i, kept, "\n"+late)
		spoil(i, kept, late+"\n")
		spoil(i, kept+"\n", late)
		spoil(i, "\n"+kept, late)
		spoil(i, kept, late+"0")
		spoil(i, kept, late+all)
		spoil(i, all, all)
		spoil(i, late+kept, "x")
		spoil(i, all, plainLog(those(h.P.L[0])))
		spoil(i, all, plainLog(those(nextOf(h.P.L, 3, 0, does(0))))) // one that the house does not know
		spoil(i, plainLog(those(nextOf(nil, 3, i, does(0)))), all)
		if kept != "" && late != "" {
			spoil(i, late, kept)
			spoil(i, kept, "")
			spoil(i, "", late)
			spoil(i, "", kept)
			spoil(i, late, "")
		}
		for cut := range len(all) + 1 {
			w := copyWorld(good)
			w.H[i].Kept, w.H[i].Late = all[:cut], all[cut:]
			if cut == 0 || all[cut-1] == '\n' {
				checkWorldOk(t, w, true) // kept up to the end of any line
			} else {
				spoil(i, all[:cut], all[cut:])
				spoil(i, all[:cut], "")
				spoil(i, "", all[:cut])
			}
		}
	}
	if asked < 1000 {
		t.Fatal("this says little", asked)
	}
	// the lines say more than the house knows, or less
	for k := range good.H[1].P.L {
		known := good.H[1].P.L[:k]
		w := copyWorld(good)
		w.H[1].P = placeOf(1, 3, known)
		checkWorldOk(t, w, false)
		spoil(1, plainLog(known), "")
		spoil(1, "", plainLog(known))
	}
}

// TestLinesOfOtherActs: the lines need not say the same of what an act does, nor
// stand in the order of L; what each act knows must be the same.
func TestLinesOfOtherActs(t *testing.T) {
	a1, b1, a2, b2, a3 := twoPlaces()
	l := those(a1, b1, a2, b2, a3)
	for _, lines := range orders(l) {
		w := worldOf(l, nil)
		w.H[0].Kept, w.H[0].Late = plainLog(lines[:2]), plainLog(lines[2:])
		read, length := plainRecover(plainLog(lines), 2)
		if checkWorldOk(t, w, len(read) == len(l)); len(read) == len(l) {
			checkStep(t, w, impl.Ev{Kind: impl.EvCrash, J: length}, withLines(worldOf(l, nil), 0, plainLog(lines), ""))
		}
	}
	for k, a := range l {
		for _, b := range []impl.Act{does(5), does(0, toSet(k)), gives(3, 4, 1, k), limits(0, 2, k)} {
			other := slices.Clone(l)
			b.R, b.N, b.Dep = a.R, a.N, a.Dep
			other[k] = b
			w := worldOf(nil, l)
			w.H[1].Late, w.H[1].Kept = plainLog(other[1:]), plainLog(other[:1])
			checkWorldOk(t, w, true)
			e := impl.Ev{Kind: impl.EvCrash, I: 1, J: math.MaxInt}
			checkStep(t, w, e, worldOf(nil, other))
			w = worldOf(nil, other)
			w.H[1].Kept = plainLog(l)
			checkWorldOk(t, w, true)
			checkStep(t, w, e, worldOf(nil, l))
		}
	}
	// b2 knows a1, or it does not
	unlike := those(a1, b1, a2, act(1, 2, 0, 1), a3)
	for _, c := range [][2][]impl.Act{{l, inOrder(unlike)}, {inOrder(unlike), l}, {those(a1, b1), those(a1, act(1, 1, 1, 0))}, {those(a1, b1), those(a1, a2)}, {those(a1, a2), those(a1, b1)}} {
		for i := range 2 {
			w := worldOf(nil, nil)
			w.H[i] = houseOf(i, 2, c[0])
			checkWorldOk(t, w, true)
			w.H[i].Kept = plainLog(c[1])
			checkNoWorld(t, w)
			w.H[i].Kept, w.H[i].Late = "", plainLog(c[1])
			checkNoWorld(t, w)
		}
	}
}

// TestStepsCount: MaxSteps are taken, and not one more, whatever they are.
func TestStepsCount(t *testing.T) {
	w := goodWorld(t)
	for _, e := range []impl.Ev{{}, {Kind: impl.EvSync, I: 1}, {Kind: impl.EvTwice}, {Kind: 100}} {
		for _, count := range []int{impl.MaxSteps - 1, impl.MaxSteps} {
			want := w
			for range impl.MaxNotes { // as many as matter
				want = plainStep(want, e)
			}
			checkSteps(t, w, slices.Repeat([]impl.Ev{e}, count), want)
		}
		for _, count := range []int{impl.MaxSteps + 1, impl.MaxSteps + 2, 2 * impl.MaxSteps} {
			checkSteps(t, w, slices.Repeat([]impl.Ev{e}, count), impl.World{})
		}
	}
	checkSteps(t, w, nil, w)
	checkSteps(t, w, []impl.Ev{}, w)
	many := make([]impl.Ev, impl.MaxSteps)
	many[impl.MaxSteps-1] = impl.Ev{Kind: impl.EvSay, I: 1, A: does(0)}
	checkSteps(t, w, many, plainStep(w, many[impl.MaxSteps-1]))
	inTime(t, func() {
		s := newTown(t, 4)
		steps := make([]impl.Ev, impl.MaxSteps)
		for k := range steps {
			steps[k] = impl.Ev{Kind: impl.EvSay + k%8, I: k / 8 % 4, J: k / 32 % 4, A: does(0, toSet(k), toIns(k), toRem(k-100))}
		}
		got := impl.StepAll(s.w, steps)
		if !impl.WorldOk(got) || !impl.Alike(got) || len(got.H[0].P.L) < 20 {
			t.Error("this says little", got)
		}
	})
}

// TestStepsOfWhatIsNoWorldAnymore: an act of the house itself may wait, as
// document and PlaceOk have it. What is written with its name is there, but that
// is no world then, and whatever comes behind that leaves nothing.
func TestStepsOfWhatIsNoWorldAnymore(t *testing.T) {
	w := worldOf(nil, chain(1, 2, 2))
	w.H[1].P.Wait = those(act(0, 2, 1, 0), act(1, 4, 1, 3), act(1, 3, 1, 2))
	checkWorldOk(t, w, true)
	say := impl.Ev{Kind: impl.EvSay, I: 1, A: does(0, toSet(1))}
	broken := plainStep(w, say)
	if len(broken.H[1].P.L) != 3 || len(broken.H[1].P.Wait) != 3 || plainWorldOk(broken) {
		t.Fatal("this says little", broken)
	}
	checkStep(t, w, say, broken)
	checkSteps(t, w, []impl.Ev{{}, say}, broken)
	checkNoWorld(t, broken)
	for kind := range impl.EvTidy + 2 {
		for _, i := range []int{0, 1, 2, -1} {
			checkSteps(t, w, []impl.Ev{say, {Kind: kind, I: i, A: does(0)}}, impl.World{})
		}
	}
	checkSteps(t, w, []impl.Ev{{}, say, {}, {Kind: impl.EvCrash, I: 1}}, impl.World{})
	// elsewhere, or where it is refused, it does no harm
	for _, e := range []impl.Ev{{Kind: impl.EvSay, A: does(0)}, {Kind: impl.EvSay, I: 1, A: does(1, toSet(1))}, {Kind: impl.EvCrash, I: 1, J: 0}} {
		checkSteps(t, w, []impl.Ev{e, {Kind: impl.EvSync, I: 1}}, plainSteps(w, []impl.Ev{e, {Kind: impl.EvSync, I: 1}}))
	}
	// what has waited is taken ahead of that
	w.Net = []impl.Note{noteTo(1, act(0, 1, 0, 0))}
	steps := []impl.Ev{{Kind: impl.EvDeliver}, say, {Kind: impl.EvSync, I: 1}}
	want := plainSteps(w, steps)
	if len(want.H[1].P.L) != 7 {
		t.Fatal("this says little", want)
	}
	checkSteps(t, w, steps, want)
}

// TestMeetOfOne: one house meets nobody, so nothing is kept; the notes are gone.
func TestMeetOfOne(t *testing.T) {
	s := newTown(t, 1)
	a1 := s.say(0, does(0, toSet(1)))
	s.happen(impl.Ev{Kind: impl.EvSync})
	a2 := s.say(0, does(0, toSet(2)))
	s.w.Net = slices.Repeat([]impl.Note{noteTo(0, a1)}, impl.MaxNotes)
	s.w.H[0].P.Wait = farActs(3, 0, 1)
	s.meet()
	s.checkActs(0, those(a1, a2), farActs(3, 0, 1)...)
	s.checkLines(0, those(a1), those(a2))
	s.checkNet()
}

func TestMeetOfTwo(t *testing.T) {
	s := newTown(t, 2)
	a1, a2 := s.say(0, gives(0, 1, 0, allRights)), s.say(0, does(1, toSet(1)))
	b1 := s.say(1, does(0, toSet(2)))
	s.w.Net = []impl.Note{noteTo(0, act(1, 2, 0, 1)), noteTo(1, a1)} // these are lost
	s.meet()
	s.checkNet()
	for house := range 2 {
		s.checkActs(house, those(a1, b1, a2))
	}
	s.checkLines(0, those(a1, a2, b1), nil)
	s.checkLines(1, those(b1, a1, a2), nil)
	before := s.w
	if s.meet(); !sameWorld(s.w, before) {
		t.Fatal("they have met, and something comes of it once more", s.w)
	}
	a3, b2, b3 := s.say(0, does(0, toIns(1))), s.say(1, does(0, toIns(2))), s.say(1, does(0, toRem(1)))
	s.meet()
	s.checkLines(0, those(a1, a2, b1, a3, b2, b3), nil)
	s.checkLines(1, those(b1, a1, a2, b2, b3, a3), nil)
	s.checkActs(0, those(a1, b1, a2, a3, b2, b3))
}

// TestMeetOfMany: what each of them has written reaches all others, by I, then J.
func TestMeetOfMany(t *testing.T) {
	s := newTown(t, 4)
	a1, b1, c1, d1 := s.say(0, does(0, toSet(1))), s.say(1, does(0, toSet(2))), s.say(2, does(0, toSet(3))), s.say(3, does(0, toSet(4)))
	d2 := s.say(3, does(0, toIns(4)))
	s.happen(impl.Ev{Kind: impl.EvSync, I: 2})
	s.meet()
	s.checkLines(0, those(a1, b1, c1, d1, d2), nil)
	s.checkLines(1, those(b1, a1, c1, d1, d2), nil) // house 0 told of a1 ahead of all
	s.checkLines(2, those(c1, a1, b1, d1, d2), nil)
	s.checkLines(3, those(d1, d2, a1, b1, c1), nil)
	for house := range 4 {
		s.checkActs(house, those(a1, b1, c1, d1, d2))
	}
}

// TestMeetByRounds has acts of the houses themselves that wait for one another,
// step by step: they meet as often as there are houses, and not once more.
func TestMeetByRounds(t *testing.T) {
	w := worldOf(nil, those(act(1, 1, 0, 0)))
	for k := 4; k > 0; k-- {
		w.H[0].P.Wait = append(w.H[0].P.Wait, act(0, k, k-1, k))
		w.H[1].P.Wait = append(w.H[1].P.Wait, act(1, k+1, k, k))
	}
	a1, a2, b1, b2 := act(0, 1, 0, 1), act(0, 2, 1, 2), act(1, 1, 0, 0), act(1, 2, 1, 1)
	s := &town{t, w}
	s.meet()
	s.checkActs(0, those(b1, a1, b2, a2), w.H[0].P.Wait[:2]...)
	s.checkLines(0, those(b1, a1), those(b2, a2))
	s.checkActs(1, those(b1, a1, b2), w.H[1].P.Wait[:3]...)
	s.checkLines(1, those(b1, a1, b2), nil)
	s.meet()
	s.checkActs(0, those(b1, a1, b2, a2, act(1, 3, 2, 2), act(0, 3, 2, 3), act(1, 4, 3, 3), act(0, 4, 3, 4)))
	s.meet()
	s.checkActs(1, those(b1, a1, b2, a2, act(1, 3, 2, 2), act(0, 3, 2, 3), act(1, 4, 3, 3), act(0, 4, 3, 4), act(1, 5, 4, 4)))
}

// TestMeetWithoutRoom: what is not taken is lost to a house, and what is of the
// house itself is not heard by it.
func TestMeetWithoutRoom(t *testing.T) {
	inTime(t, func() {
		checkMeet(t, worldOf(chain(0, 60, 2), chain(1, 60, 2)), worldOf(chain(0, 60, 2), chain(1, 60, 2)))
		w := worldOf(chain(0, 58, 3), chain(1, 3, 3), chain(2, 1, 3))
		want := plainMeet(w)
		checkMeet(t, w, want)
		for i, h := range want.H {
			if len(h.P.L) != impl.MaxActs || len(h.P.Wait) != 0 {
				t.Error("not full", i, len(h.P.L), len(h.P.Wait))
			}
		}
		for _, waiting := range []int{impl.MaxWait - 1, impl.MaxWait} {
			w = worldOf(nil, chain(1, 5, 3), chain(2, 3, 3))
			w.H[0].P.Wait = farActs(waiting, 1, 3)
			w.H[1].P.Wait = those(act(2, 4, 0, 6, 3))
			want = plainMeet(w)
			checkMeet(t, w, want)
			if len(want.H[0].P.L) != 8 || len(want.H[0].P.Wait) != waiting {
				t.Error("something else waits", want.H[0])
			}
		}
		// house 0 has lost its own first act, and yet house 1 has it: what knows of it waits
		own := act(0, 1, 0, 0)
		w = worldOf(nil, those(own, act(1, 1, 1, 0), act(1, 2, 1, 1)))
		want = plainMeet(w)
		checkMeet(t, w, want)
		if len(want.H[0].P.L) != 0 || len(want.H[0].P.Wait) != 2 {
			t.Error("heard of its own act", want.H[0])
		}
	})
}

// TestMeetHides: a right that is taken back in one house hides in both, once they
// have met, what was written in the other without knowing of that.
func TestMeetHides(t *testing.T) {
	s := newTown(t, 2)
	grant := s.say(0, gives(0, 1, 0, read+write))
	s.say(0, does(1, toSet(1)))
	s.meet()
	s.say(1, does(1, toSet(5), toIns(5)))
	s.say(0, takes(0, grant))
	look := func(house, actor int, code int, want ...int) {
		t.Helper()
		(&post{t, s.w.H[house].P}).look(code, actor, impl.FcReg, 0, 0, want...)
	}
	look(0, 0, impl.PmOk, 1)
	look(1, 1, impl.PmOk, 5)
	s.meet()
	for house := range 2 {
		look(house, 0, impl.PmOk, 1)
		look(house, 1, impl.PmDenied)
		s.sayNot(house, does(1, toSet(6)))
		if !slices.Equal(s.w.H[house].P.V, []bool{true, true, true, false}) {
			t.Fatal("not hidden", house, s.w.H[house].P.V)
		}
	}
}

// TestMeetInNoOrder: the same is known as if they had met, whether notes were
// lost, came twice, or came in another order.
func TestMeetInNoOrder(t *testing.T) {
	rnd := rand.New(rand.NewPCG(11, 4))
	waited := 0
	for turn := range 12 {
		n := 2 + turn%3
		w, _ := impl.WorldNew(n)
		for k := range 4 * n {
			w = impl.Step(w, impl.Ev{Kind: impl.EvSay, I: rnd.IntN(n), A: does(0, toSet(k), toIns(k%3), toRem((k+1)%3))})
		}
		met := impl.Meet(w)
		for range 30 {
			w = impl.Step(w, impl.Ev{Kind: impl.EvSend, I: rnd.IntN(n), J: rnd.IntN(n)})
			for _, kind := range []int{impl.EvTwice, impl.EvDeliver, impl.EvDrop, impl.EvDeliver, impl.EvDeliver} {
				w = impl.Step(w, impl.Ev{Kind: kind, I: rnd.IntN(len(w.Net) + 1)})
			}
			for _, h := range w.H {
				waited += len(h.P.Wait)
			}
		}
		for len(w.Net) > 0 {
			w = impl.Step(w, impl.Ev{Kind: impl.EvDeliver, I: rnd.IntN(len(w.Net))})
		}
		for i := range n { // what was lost is sent again
			for j := range n {
				w = impl.Step(w, impl.Ev{Kind: impl.EvSend, I: i, J: j})
				for len(w.Net) > 0 {
					w = impl.Step(w, impl.Ev{Kind: impl.EvDeliver, I: rnd.IntN(len(w.Net))})
				}
			}
		}
		for i, h := range w.H {
			if !samePlace(h.P, met.H[i].P) {
				t.Fatal("the order tells", h.P, met.H[i].P)
			}
		}
	}
	if waited < 100 {
		t.Fatal("this says little", waited)
	}
}

// TestMeetLeavesNobody: whoever was told of those who meet is gone when it ends,
// and several may ask at once.
func TestMeetLeavesNobody(t *testing.T) {
	w := goodWorld(t)
	want := plainMeet(w)
	before := runtime.NumGoroutine()
	var asking sync.WaitGroup
	for range 20 {
		asking.Go(func() {
			for range 10 {
				if got := impl.Meet(w); !sameWorld(got, want) {
					t.Errorf("Meet: %+v", got)
				}
				impl.Meet(impl.World{})
			}
		})
	}
	asking.Wait()
	for tries := 0; runtime.NumGoroutine() > before; tries++ {
		if tries > 1000 {
			t.Fatal("somebody still waits", runtime.NumGoroutine(), before)
		}
		time.Sleep(time.Millisecond)
	}
}

// unlikeLists gives lists of one clock, no two of which tell the same, the first
// of which tells nothing.
func unlikeLists() [][]impl.Act {
	var lists [][]impl.Act
	for _, ups := range [][]impl.Up{nil, {toSet(0)}, {toSet(1)}, {toAdd(1)}, {toAdd(2)}, {toIns(0)}, {toIns(1)}, {toIns(0), toIns(1)}, {at(0, 1, toSet(1))}, {at(2, 3, toSet(1))}, {at(2, 3, toAdd(-1))}} {
		lists = append(lists, writeAll(does(0, ups...)))
	}
	return lists
}

// withPlaces gives the acts as they are where so many places are.
func withPlaces(l []impl.Act, n int) []impl.Act {
	for range n - 1 {
		l = withSilent(l)
	}
	return l
}

func TestAlike(t *testing.T) {
	lists := unlikeLists()
	for i, l := range lists {
		for j, m := range lists {
			for n := 2; n <= impl.MaxPlaces; n++ {
				for house := range n {
					houses := slices.Repeat([][]impl.Act{withPlaces(m, n)}, n)
					houses[house] = withPlaces(l, n)
					checkAlike(t, worldOf(houses...), i == j)
					for other := range n { // of one clock are these two alone
						if other == house {
							continue
						}
						apart := make([][]impl.Act, n)
						for k := range apart {
							apart[k] = chain(k, 2+k, n)
						}
						apart[house], apart[other] = houses[house], houses[other]
						checkAlike(t, worldOf(apart...), i == j)
					}
				}
			}
		}
		checkAlike(t, worldOf(l), true)
		checkAlike(t, worldOf(withPlaces(l, 2), nil), true)
		checkAlike(t, worldOf(withPlaces(l, 2), withPlaces(writeAll(does(0), does(0)), 2)), true)
	}
	// unlike acts that tell the same
	for _, a := range []impl.Act{gives(0, 1, 0, 15), limits(0, 0, 0), does(1, toSet(1)), does(0, toRem(7)), does(0, toIns(7), toRem(7)), does(0)} {
		checkAlike(t, worldOf(withPlaces(lists[0], 2), withPlaces(writeAll(a), 2)), true)
	}
	// two clocks, of two houses each
	first, second := withPlaces(lists[1], 4), append(withPlaces(lists[2], 4), nextOf(withPlaces(lists[2], 4), 4, 2, does(0)))
	third := append(withPlaces(lists[3], 4), second[1])
	checkAlike(t, worldOf(first, second, first, second), true)
	checkAlike(t, worldOf(first, first, second, second), true)
	checkAlike(t, worldOf(first, second, first, third), false)
	checkAlike(t, worldOf(first, second, second, third), false)
	checkAlike(t, worldOf(third, second, first, first), false)
	// what waits, what is kept, and what is on its way does not matter
	w := worldOf(first, first, second, third[:1])
	w.H[3].P.Wait = third[1:]
	checkAlike(t, w, false)
	w = worldOf(first, first, second, second[:1])
	w.H[0].P.Wait, w.H[2].Late, w.H[2].Kept = farActs(4, 1, 4), w.H[2].Kept, ""
	w.Net = []impl.Note{noteTo(0, third[1]), noteTo(1, third[0])}
	checkAlike(t, w, false)
	w.H[3] = houseOf(3, 4, nil)
	checkAlike(t, w, true)
}

// randomEv gives what may happen, mostly at a house or a note that is there.
func randomEv(rnd *rand.Rand, w impl.World) impl.Ev {
	n := len(w.H)
	e := impl.Ev{I: rnd.IntN(n), J: rnd.IntN(n)}
	note := rnd.IntN(len(w.Net) + 1)
	switch kind := rnd.IntN(42); {
	case kind < 13:
		p := w.H[e.I].P
		e.Kind, e.A = impl.EvSay, randomWish(rnd, p)
		if d := (&diary{known: [][]int{countsOf(p.L, n)}, acts: p.L}); len(p.L) > 0 && rnd.IntN(3) > 0 {
			e.A = d.randomDeed(rnd, 0)
		}
	case kind < 20:
		e.Kind = impl.EvSend
	case kind < 29:
		e.Kind, e.I = impl.EvDeliver, note
	case kind < 31:
		e.Kind, e.I = impl.EvDrop, note
	case kind < 33:
		e.Kind, e.I = impl.EvTwice, note
	case kind < 35:
		e.Kind = impl.EvSync
	case kind < 37:
		e.Kind, e.J = impl.EvCrash, rnd.IntN(len(w.H[e.I].Late)+3)-1
	case kind < 41:
		e.Kind = impl.EvTidy
	default:
		e.Kind, e.I, e.J = rnd.IntN(12)-1, rnd.IntN(7)-1, rnd.IntN(7)-1
	}
	return e
}

// strangeWorld is a world as no row of steps leaves it: houses may have acts that
// others do not know of, or other acts of the same names, and lines that say
// something else; acts of a house itself may wait there, or be on their way to it.
func strangeWorld(rnd *rand.Rand, n, count int) impl.World {
	l := randomStory(rnd, n, count)
	other := func(a impl.Act) impl.Act {
		b := does(rnd.IntN(2), impl.Up{Kind: 1 + rnd.IntN(4), Val: rnd.IntN(3)})
		b.R, b.N, b.Dep = a.R, a.N, a.Dep
		return b
	}
	var w impl.World
	for i := range n {
		v := make([]int, n)
		for range 1 + rnd.IntN(4) {
			a := l[rnd.IntN(len(l))]
			for place := range v {
				v[place] = max(v[place], a.Dep[place])
			}
			v[a.R] = max(v[a.R], a.N)
		}
		known, rest := plainCut(l, n, v)
		known = copyActs(known)
		for k, a := range known {
			if rnd.IntN(12) == 0 {
				known[k] = other(a)
			}
		}
		lines := hearing(rnd, known)
		for k, a := range lines {
			if rnd.IntN(12) == 0 {
				lines[k] = other(a)
			}
		}
		rest = shuffled(rnd, append(rest, farActs(3, rnd.IntN(n), n)...))
		h := houseOf(i, n, known, rest[:rnd.IntN(min(len(rest), impl.MaxWait)+1)]...)
		cut := rnd.IntN(len(lines) + 1)
		h.Kept, h.Late = plainLog(lines[:cut]), plainLog(lines[cut:])
		w.H = append(w.H, h)
	}
	for range rnd.IntN(12) {
		a := l[rnd.IntN(len(l))]
		if rnd.IntN(3) == 0 {
			a = other(a)
		}
		w.Net = append(w.Net, noteTo(rnd.IntN(n), a))
	}
	return w
}

// TestWorldsAgainstThePlainOnes asks for rows of steps in worlds that came of such
// rows, and in strange ones.
func TestWorldsAgainstThePlainOnes(t *testing.T) {
	rnd := rand.New(rand.NewPCG(11, 31))
	changed, none, unlike := map[int]int{}, 0, 0
	for turn := range 120 {
		n := 1 + turn%impl.MaxPlaces
		w, _ := impl.WorldNew(n)
		if turn%8 >= 4 {
			w = strangeWorld(rnd, n, 4+turn%20)
		}
		checkWorldOk(t, w, true)
		first, steps := w, []impl.Ev(nil)
		for range 25 {
			e := randomEv(rnd, w)
			want := plainStep(w, e)
			checkStep(t, w, e, want)
			if !sameWorld(w, want) {
				changed[e.Kind]++
			}
			w, steps = want, append(steps, e)
			ok := plainWorldOk(w)
			if checkWorldOk(t, w, ok); !ok {
				none++
				break
			}
		}
		checkSteps(t, first, steps, w)
		checkMeet(t, w, plainMeet(w))
		alike := plainAlike(w)
		if checkAlike(t, w, alike); !alike && plainWorldOk(w) {
			unlike++
		}
		met := plainMeet(w)
		checkAlike(t, met, plainAlike(met))
		if !plainAlike(met) && plainWorldOk(met) {
			unlike++
		}
	}
	for kind := impl.EvSay; kind <= impl.EvTidy; kind++ {
		if changed[kind] < 20 {
			t.Fatal("this says little", changed)
		}
	}
	if none < 5 || unlike < 10 {
		t.Fatal("this says little", none, unlike)
	}
}

// TestHousesOfMaxActs: each thing happens to houses that are full, too.
func TestHousesOfMaxActs(t *testing.T) {
	for n := 1; n <= impl.MaxPlaces; n++ {
		l := history(n, impl.MaxActs, 1)
		w := worldOf(make([][]impl.Act, n)...)
		w.H[n-1] = houseOf(n-1, n, l, farActs(impl.MaxWait, 0, n)...)
		w.H[n-1].Kept, w.H[n-1].Late = plainLog(l[:30]), plainLog(l[30:])
		for k := range impl.MaxNotes {
			w.Net = append(w.Net, noteTo(k%n, l[k]))
		}
		length := len(w.H[n-1].Late)
		for kind := range impl.EvTidy + 1 {
			e := impl.Ev{Kind: kind, I: n - 1, J: length/2*kind - 3*length, A: does(0)}
			checkStep(t, w, e, plainStep(w, e))
		}
		for _, bytes := range []int{0, 1, length / 3, length - 1, length} {
			e := impl.Ev{Kind: impl.EvCrash, I: n - 1, J: bytes}
			checkStep(t, w, e, plainStep(w, e))
		}
	}
	w := worldOf(nil, manyActs(impl.MaxActs), nil, nil)
	w.H[0].P.Wait = those(act(2, 15, 15, 15, 14, 15))
	checkMeet(t, w, plainMeet(w))
}

// chronicle is a world that came of steps alone, and all acts as they were
// written: where one was lost, and another one of its name was written since,
// that one.
type chronicle struct {
	t       *testing.T
	w       impl.World
	written []impl.Act
	steps   []impl.Ev
	first   impl.World
}

func newChronicle(t *testing.T, n int) *chronicle {
	w, _ := impl.WorldNew(n)
	return &chronicle{t: t, w: w, first: w}
}

func (c *chronicle) step(e impl.Ev) {
	c.t.Helper()
	before := c.w
	c.w, c.steps = impl.Step(before, e), append(c.steps, e)
	if len(c.w.H) != len(before.H) || !impl.WorldOk(c.w) || !impl.Alike(c.w) {
		c.t.Fatalf("%+v: %+v is no world, or those who know the same do not tell the same", e, c.w)
	}
	for i, h := range c.w.H {
		if own := h.P.L; e.Kind == impl.EvSay && e.I == i && len(own) > len(before.H[i].P.L) {
			c.note(own[len(own)-1])
		}
		isThere := e.Kind == impl.EvDeliver && e.I >= 0 && e.I < len(before.Net) && before.Net[e.I].To == i
		if i != e.I && !isThere && !sameHouse(h, before.H[i]) {
			c.t.Fatalf("%+v: house %d is another one: %+v, was %+v", e, i, h, before.H[i])
		}
		if e.Kind == impl.EvCrash && e.I == i {
			checkCrashed(c.t, before.H[i], h, e.J)
		} else if !impl.ClockLeq(impl.ClockOf(before.H[i].P.L, h.P.N), impl.ClockOf(h.P.L, h.P.N)) {
			c.t.Fatalf("%+v: house %d has forgotten something", e, i)
		}
	}
}

func (c *chronicle) note(a impl.Act) {
	c.written = slices.DeleteFunc(c.written, func(b impl.Act) bool { return a.R == b.R && a.N == b.N })
	c.written = append(c.written, copyAct(a))
}

// check holds what each house tells against what is told of the acts as they were
// written, whatever was lost and tidied away since.
func (c *chronicle) check() {
	c.t.Helper()
	for i, h := range c.w.H {
		var asWritten []impl.Act
		for _, a := range h.P.L {
			asWritten = append(asWritten, c.written[plainFind(c.written, a.R, a.N)])
		}
		if !slices.EqualFunc(impl.Things(h.P.L, h.P.N), impl.Things(inOrder(asWritten), h.P.N), plainSameThing) {
			c.t.Fatalf("house %d tells other things: %+v, as it was written: %+v", i, h.P.L, asWritten)
		}
		lines, _ := impl.Recover(h.Kept+h.Late, h.P.N)
		if !sameActs(lines, asWritten) {
			c.t.Fatalf("house %d has other lines: %q, %q, of %+v", i, h.Kept, h.Late, asWritten)
		}
	}
}

// checkCrashed: what is kept is known behind a crash, and of the rest what was whole.
func checkCrashed(t *testing.T, before, after impl.House, bytes int) {
	t.Helper()
	left := before.Kept + before.Late[:min(max(bytes, 0), len(before.Late))]
	whole := left[:strings.LastIndex(left, "\n")+1]
	known, _ := impl.Recover(whole, before.P.N)
	if after.Kept != whole || after.Late != "" || !strings.HasPrefix(whole, before.Kept) || !sameActs(after.P.L, known) ||
		len(known) != strings.Count(whole, "\n") || len(after.P.Wait) != 0 || !impl.PlaceOk(after.P) {
		t.Fatalf("a crash with %d bytes of %+v leaves %+v", bytes, before, after)
	}
}

// checkMet: all know the same, nobody knows less than before, and nothing waits.
func checkMet(t *testing.T, before, after impl.World) {
	t.Helper()
	n := len(before.H)
	first := after.H[0].P.L
	if len(after.H) != n || len(after.Net) != 0 || !impl.WorldOk(after) || !impl.Alike(after) {
		t.Fatalf("%+v, having met, is %+v", before, after)
	}
	for i, h := range after.H {
		was := before.H[i].P.L
		if !slices.Equal(impl.ClockOf(h.P.L, n), impl.ClockOf(first, n)) || !impl.SameThings(impl.Things(h.P.L, n), impl.Things(first, n)) {
			t.Fatalf("they have met, and yet house %d knows %+v, and house 0 %+v", i, h.P.L, first)
		}
		if !impl.ClockLeq(impl.ClockOf(was, n), impl.ClockOf(h.P.L, n)) || len(h.P.Wait) != 0 {
			t.Fatalf("house %d, having met, has forgotten or waits: %+v, was %+v", i, h.P, was)
		}
	}
}

// TestPromise11: whatever happens, those who know the same tell the same, and
// what was kept is known behind a crash; when all have met, all know the same.
func TestPromise11(t *testing.T) {
	rnd := rand.New(rand.NewPCG(11, 1))
	kinds, lost, gone, same, unlike := map[int]int{}, 0, 0, 0, 0
	for turn := range 60 {
		n := 1 + turn%impl.MaxPlaces
		c := newChronicle(t, n)
		for range 90 {
			before := c.w
			e := randomEv(rnd, c.w)
			if len(c.written) >= impl.MaxActs-n && e.Kind == impl.EvSay {
				continue // there has to be room for all
			}
			c.step(e)
			if e.Kind >= 1 && e.Kind <= 8 && !sameWorld(before, c.w) {
				kinds[e.Kind]++
			}
			for i, h := range c.w.H {
				lost += max(0, len(before.H[i].P.L)-len(h.P.L))
				if len(before.H[i].P.L) == len(h.P.L) {
					gone += max(0, impl.UpCount(before.H[i].P.L)-impl.UpCount(h.P.L))
				}
				for _, g := range c.w.H[:i] {
					if slices.Equal(countsOf(g.P.L, n), countsOf(h.P.L, n)) && len(g.P.L) > 3 {
						same++
						if !sameActs(g.P.L, h.P.L) {
							unlike++
						}
					}
				}
			}
			if rnd.IntN(12) == 0 {
				met := impl.Meet(c.w)
				checkMet(t, c.w, met)
				if rnd.IntN(2) == 0 {
					c.w, c.first, c.steps = met, met, nil
				}
			}
			if rnd.IntN(10) == 0 {
				c.check()
			}
		}
		c.check()
		cut := rnd.IntN(len(c.steps) + 1)
		whole, part := impl.StepAll(c.first, c.steps), impl.StepAll(c.first, c.steps[:cut])
		if !sameWorld(whole, c.w) || !sameWorld(impl.StepAll(part, c.steps[cut:]), whole) {
			t.Fatalf("%+v, one after the other, leave another world than all of them", c.steps)
		}
		checkMet(t, c.w, impl.Meet(c.w))
		c.w = impl.Meet(c.w)
		c.check()
	}
	for kind := impl.EvSay; kind <= impl.EvTidy; kind++ {
		if kinds[kind] < 30 {
			t.Fatal("this says little", kinds)
		}
	}
	if lost < 80 || gone < 100 || same < 1000 || unlike < 80 {
		t.Fatal("this says little", lost, gone, same, unlike)
	}
}

// TestPromise11Kept: of a house that goes on between crashes, cut off anywhere,
// all that was kept is known each time, and so is what it told others.
func TestPromise11Kept(t *testing.T) {
	rnd := rand.New(rand.NewPCG(11, 2))
	inside, ends := 0, 0
	for turn := range 40 {
		n := 1 + turn%impl.MaxPlaces
		c := newChronicle(t, n)
		house := rnd.IntN(n)
		for len(c.written) < 25 && len(c.steps) < 300 {
			for range rnd.IntN(6) {
				c.step(impl.Ev{Kind: impl.EvSay, I: house, A: does(0, toSet(rnd.IntN(9)), toIns(rnd.IntN(3)))})
			}
			other := rnd.IntN(n)
			c.step(impl.Ev{Kind: impl.EvSay, I: other, A: gives(0, rnd.IntN(6), 0, rnd.IntN(16))})
			c.step(impl.Ev{Kind: impl.EvSend, I: other, J: house})
			for range rnd.IntN(5) {
				c.step(impl.Ev{Kind: impl.EvDeliver, I: rnd.IntN(len(c.w.Net) + 1)})
			}
			if rnd.IntN(3) == 0 {
				c.step(impl.Ev{Kind: []int{impl.EvSync, impl.EvTidy}[rnd.IntN(2)], I: house})
			}
			late := c.w.H[house].Late
			told := c.w.H[house].Kept
			bytes := rnd.IntN(len(late) + 1)
			if rnd.IntN(3) == 0 {
				bytes = strings.LastIndex(late[:bytes], "\n") + 1
				ends++
			} else if bytes > 0 && late[bytes-1] != '\n' {
				inside++
			}
			c.step(impl.Ev{Kind: impl.EvCrash, I: house, J: bytes})
			known, _ := impl.Recover(told, n)
			if !strings.HasPrefix(c.w.H[house].Kept, told) || !impl.ClockLeq(impl.ClockOf(known, n), impl.ClockOf(c.w.H[house].P.L, n)) {
				t.Fatal("something that was kept is lost", told, c.w.H[house])
			}
		}
		c.check()
		checkMet(t, c.w, impl.Meet(c.w))
	}
	if inside < 50 || ends < 50 {
		t.Fatal("this says little", inside, ends)
	}
}

// TestPromise11Tidied has houses that have tidied, or not, that crash, or not,
// and meet: whatever they do, they tell the same as those who did neither.
func TestPromise11Tidied(t *testing.T) {
	rnd := rand.New(rand.NewPCG(11, 3))
	gone := 0
	for turn := range 24 {
		n := 2 + turn%(impl.MaxPlaces-1)
		c := newChronicle(t, n)
		for len(c.written) < 20 {
			house := rnd.IntN(n)
			d := &diary{known: [][]int{{0}}, acts: []impl.Act{act(0, 1, 0)}}
			c.step(impl.Ev{Kind: impl.EvSay, I: house, A: d.randomDeed(rnd, 0)})
			if rnd.IntN(4) == 0 {
				c.w = impl.Meet(c.w)
			}
		}
		plain := c.w
		for range 12 {
			house := rnd.IntN(n)
			steps := []impl.Ev{{Kind: impl.EvSync, I: house}, {Kind: impl.EvCrash, I: house, J: rnd.IntN(9)}}
			if rnd.IntN(3) > 0 {
				steps = []impl.Ev{{Kind: impl.EvTidy, I: house}}
			}
			before := impl.UpCount(c.w.H[house].P.L)
			for _, e := range steps {
				c.step(e)
			}
			gone += max(0, before-impl.UpCount(c.w.H[house].P.L))
			say := impl.Ev{Kind: impl.EvSay, I: house, A: does(0, toSet(rnd.IntN(9)), toRem(rnd.IntN(3)-1), toIns(rnd.IntN(3)-1))}
			c.step(say)
			plain = impl.Step(plain, say)
			if rnd.IntN(3) == 0 {
				checkMet(t, c.w, impl.Meet(c.w))
				c.w, plain = impl.Meet(c.w), impl.Meet(plain)
			}
			for i, h := range c.w.H {
				if !impl.SameThings(impl.Things(h.P.L, n), impl.Things(plain.H[i].P.L, n)) {
					t.Fatalf("house %d tells other things: %+v, untidied %+v", i, h.P.L, plain.H[i].P.L)
				}
			}
			c.check()
		}
	}
	if gone < 300 {
		t.Fatal("this says little", gone)
	}
}
