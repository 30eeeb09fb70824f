package tests

import (
	"math"
	"slices"
	"testing"

	"loop.example/g00717/impl"
)

const spareRoom = 6

// guarded is a list of an argument with marked room around it, so that a write
// into it, ahead of it or behind it is seen.
type guarded[T comparable] struct {
	list  []T
	whole []T
	asWas []T
}

func guard[T comparable](values []T, mark func(i int) T) guarded[T] {
	whole := make([]T, 0, len(values)+2*spareRoom)
	for i := range spareRoom {
		whole = append(whole, mark(i))
	}
	whole = append(whole, values...)
	for i := range spareRoom {
		whole = append(whole, mark(spareRoom+i))
	}
	return guarded[T]{
		list:  whole[spareRoom : spareRoom+len(values)],
		whole: whole,
		asWas: slices.Clone(whole),
	}
}

func guardInts(values []int) guarded[int] {
	return guard(values, func(i int) int { return math.MinInt + i })
}

func (g guarded[T]) check(t *testing.T, what string) {
	t.Helper()
	if !slices.Equal(g.whole, g.asWas) {
		t.Fatalf("%s: memory of an argument was written: %v, was %v", what, g.whole, g.asWas)
	}
}

// guardedAct is an act whose lists are guarded.
type guardedAct struct {
	act impl.Act
	dep guarded[int]
	ups guarded[impl.Up]
}

func guardAct(a impl.Act) guardedAct {
	g := guardedAct{act: a, dep: guardInts(a.Dep)}
	g.ups = guard(a.Ups, func(i int) impl.Up { return impl.Up{Kind: math.MaxInt, Val: math.MinInt + i} })
	g.act.Dep, g.act.Ups = g.dep.list, g.ups.list
	return g
}

func (g guardedAct) check(t *testing.T, what string) {
	t.Helper()
	g.dep.check(t, what+", Dep")
	g.ups.check(t, what+", Ups")
}

// overwrite fills a result and the spare room behind it: memory that it shares
// with anything else is changed there, too.
func overwrite(result []int) {
	result = result[:cap(result)]
	for i := range result {
		result[i] = -77 - i
	}
}

// guardedActs is a list of acts with marked room around it, of which each act
// is guarded.
type guardedActs struct {
	list  []impl.Act
	whole []impl.Act
	asWas []impl.Act
	acts  []guardedAct
}

func guardActs(l []impl.Act) guardedActs {
	mark := func(i int) impl.Act { return impl.Act{R: math.MinInt + i, Dep: []int{i}, Ups: []impl.Up{{Val: i}}} }
	g := guardedActs{whole: make([]impl.Act, len(l)+2*spareRoom)}
	for i := range g.whole {
		g.whole[i] = mark(i)
	}
	for i, a := range l {
		g.acts = append(g.acts, guardAct(a))
		g.whole[spareRoom+i] = g.acts[i].act
	}
	g.list = g.whole[spareRoom : spareRoom+len(l)]
	g.asWas = slices.Clone(g.whole)
	return g
}

func (g guardedActs) check(t *testing.T, what string) {
	t.Helper()
	for i, a := range g.whole {
		if !impl.SameAct(a, g.asWas[i]) || !sameRoom(a.Dep, g.asWas[i].Dep) || !sameRoom(a.Ups, g.asWas[i].Ups) {
			t.Fatalf("%s: act %d of an argument was written: %v, was %v", what, i-spareRoom, a, g.asWas[i])
		}
	}
	for _, a := range g.acts {
		a.check(t, what)
	}
}

// sameRoom says whether both lists are one and the same memory.
func sameRoom[T any](a, b []T) bool {
	return len(a) == len(b) && cap(a) == cap(b) && (cap(a) == 0 || &a[:1][0] == &b[:1][0])
}

// overwriteActs fills a result, each list of it, and the spare room behind
// them. It fails if two lists of the result share memory.
func overwriteActs(t *testing.T, result []impl.Act) {
	t.Helper()
	result = result[:cap(result)]
	for i, a := range result {
		fill(a.Dep, -1000-i)
		fill(a.Ups, impl.Up{Val: -1000 - i})
	}
	for i, a := range result {
		if !filled(a.Dep, -1000-i) || !filled(a.Ups, impl.Up{Val: -1000 - i}) {
			t.Fatal("two lists of one answer share memory", i)
		}
	}
	for i := range result {
		result[i] = impl.Act{R: -1000 - i}
	}
}

func fill[T any](l []T, value T) {
	l = l[:cap(l)]
	for i := range l {
		l[i] = value
	}
}

func filled[T comparable](l []T, value T) bool {
	return !slices.ContainsFunc(l[:cap(l)], func(x T) bool { return x != value })
}

// guardedThings is a list of things with marked room around it, of which each
// list is guarded.
type guardedThings struct {
	list  []impl.Thing
	whole []impl.Thing
	asWas []impl.Thing
	items []guarded[int]
}

func guardThings(l []impl.Thing) guardedThings {
	g := guardedThings{whole: make([]impl.Thing, len(l)+2*spareRoom)}
	for i := range g.whole {
		g.whole[i] = impl.Thing{Bucket: math.MinInt + i, Items: []int{i}}
	}
	for i, x := range l {
		g.items = append(g.items, guardInts(x.Items))
		x.Items = g.items[i].list
		g.whole[spareRoom+i] = x
	}
	g.list = g.whole[spareRoom : spareRoom+len(l)]
	g.asWas = slices.Clone(g.whole)
	return g
}

func (g guardedThings) check(t *testing.T) {
	t.Helper()
	for i, x := range g.whole {
		if !plainSameThing(x, g.asWas[i]) || !sameRoom(x.Items, g.asWas[i].Items) {
			t.Fatalf("thing %d of an argument was written: %v, was %v", i-spareRoom, x, g.asWas[i])
		}
	}
	for _, items := range g.items {
		items.check(t, "Items")
	}
}

// overwriteThings fills a result, each list of it, and the spare room behind
// them. It fails if two lists of the result share memory.
func overwriteThings(t *testing.T, result []impl.Thing) {
	t.Helper()
	result = result[:cap(result)]
	for i, x := range result {
		fill(x.Items, -1000-i)
	}
	for i, x := range result {
		if !filled(x.Items, -1000-i) {
			t.Fatal("two lists of one answer share memory", i)
		}
	}
	for i := range result {
		result[i] = impl.Thing{Bucket: -1000 - i}
	}
}

// guardedPlace is a place whose lists are guarded.
type guardedPlace struct {
	place      impl.Place
	acts, wait guardedActs
	flags      guarded[bool]
}

func guardPlace(p impl.Place) guardedPlace {
	g := guardedPlace{place: p, acts: guardActs(p.L), wait: guardActs(p.Wait), flags: guardFlags(p.V)}
	g.place.L, g.place.V, g.place.Wait = g.acts.list, g.flags.list, g.wait.list
	return g
}

func (g guardedPlace) check(t *testing.T, what string) {
	t.Helper()
	g.acts.check(t, what+", L")
	g.wait.check(t, what+", Wait")
	g.flags.check(t, what+", V")
}

// overwritePlace fills a place, and acts that came back with it, each list of
// them, and the spare room behind them. It fails if two lists share memory.
func overwritePlace(t *testing.T, p impl.Place, with ...impl.Act) {
	t.Helper()
	known, waiting := p.L[:cap(p.L)], p.Wait[:cap(p.Wait)]
	overwriteActs(t, slices.Concat(known, waiting, with))
	for i := range known {
		known[i] = impl.Act{R: -1}
	}
	for i := range waiting {
		waiting[i] = impl.Act{R: -2}
	}
	if slices.ContainsFunc(known, func(a impl.Act) bool { return a.R != -1 }) {
		t.Fatal("L and Wait of one answer share memory")
	}
	flags := p.V[:cap(p.V)]
	for i, flag := range flags {
		flags[i] = !flag
	}
}

// guardedTx is a transaction whose lists are guarded.
type guardedTx struct {
	tx   impl.Tx
	snap guarded[int]
	ups  guarded[impl.Up]
}

func guardTx(x impl.Tx) guardedTx {
	g := guardedTx{tx: x, snap: guardInts(x.Snap)}
	g.ups = guard(x.Ups, func(i int) impl.Up { return impl.Up{Kind: impl.UpAdd, Val: math.MinInt + i} })
	g.tx.Snap, g.tx.Ups = g.snap.list, g.ups.list
	return g
}

func (g guardedTx) check(t *testing.T, what string) {
	t.Helper()
	g.snap.check(t, what+", Snap")
	g.ups.check(t, what+", Ups of the transaction")
}

// overwriteTx fills the lists of a transaction and the spare room behind them.
func overwriteTx(x impl.Tx) {
	fill(x.Snap, -1000)
	fill(x.Ups, impl.Up{Val: -1000})
}

// guardedWorld is a world whose lists are guarded, and all lists in them.
type guardedWorld struct {
	world                impl.World
	houses, housesAsWere []impl.House
	net, netAsWas        []impl.Note
	places               []guardedPlace
	acts                 guardedActs
}

func guardWorld(w impl.World) guardedWorld {
	g := guardedWorld{houses: make([]impl.House, len(w.H)+2*spareRoom), net: make([]impl.Note, len(w.Net)+2*spareRoom)}
	for i := range spareRoom {
		for _, at := range []int{i, spareRoom + len(w.H) + i} {
			g.houses[at] = impl.House{P: impl.Place{Id: math.MinInt + at, V: []bool{true}}, Kept: "kept", Late: "late"}
		}
		for _, at := range []int{i, spareRoom + len(w.Net) + i} {
			g.net[at] = impl.Note{To: math.MinInt + at, A: impl.Act{Dep: []int{at}}}
		}
	}
	for i, h := range w.H {
		g.places = append(g.places, guardPlace(h.P))
		g.houses[spareRoom+i] = impl.House{P: g.places[i].place, Kept: h.Kept, Late: h.Late}
	}
	var acts []impl.Act
	for _, note := range w.Net {
		acts = append(acts, note.A)
	}
	g.acts = guardActs(acts)
	for i, note := range w.Net {
		g.net[spareRoom+i] = impl.Note{To: note.To, A: g.acts.list[i]}
	}
	g.world.H = g.houses[spareRoom : spareRoom+len(w.H)]
	g.world.Net = g.net[spareRoom : spareRoom+len(w.Net)]
	g.housesAsWere, g.netAsWas = slices.Clone(g.houses), slices.Clone(g.net)
	return g
}

func (g guardedWorld) check(t *testing.T, what string) {
	t.Helper()
	for i, h := range g.houses {
		was := g.housesAsWere[i]
		if h.P.Id != was.P.Id || h.P.N != was.P.N || h.Kept != was.Kept || h.Late != was.Late ||
			!sameRoom(h.P.L, was.P.L) || !sameRoom(h.P.V, was.P.V) || !sameRoom(h.P.Wait, was.P.Wait) {
			t.Fatalf("%s: house %d of an argument was written: %+v, was %+v", what, i-spareRoom, h, was)
		}
	}
	for i, note := range g.net {
		was := g.netAsWas[i]
		if note.To != was.To || !impl.SameAct(note.A, was.A) || !sameRoom(note.A.Dep, was.A.Dep) || !sameRoom(note.A.Ups, was.A.Ups) {
			t.Fatalf("%s: note %d of an argument was written: %+v, was %+v", what, i-spareRoom, note, was)
		}
	}
	for _, p := range g.places {
		p.check(t, what)
	}
	g.acts.check(t, what+", Net")
}

// guardedEvs is a list of events with marked room around it, of which each act
// is guarded.
type guardedEvs struct {
	list, whole, asWas []impl.Ev
	acts               guardedActs
}

func guardEvs(l []impl.Ev) guardedEvs {
	g := guardedEvs{whole: make([]impl.Ev, len(l)+2*spareRoom)}
	var acts []impl.Act
	for _, e := range l {
		acts = append(acts, e.A)
	}
	g.acts = guardActs(acts)
	for i := range g.whole {
		g.whole[i] = impl.Ev{Kind: math.MinInt + i}
	}
	for i, e := range l {
		e.A = g.acts.list[i]
		g.whole[spareRoom+i] = e
	}
	g.list, g.asWas = g.whole[spareRoom:spareRoom+len(l)], slices.Clone(g.whole)
	return g
}

func (g guardedEvs) check(t *testing.T, what string) {
	t.Helper()
	for i, e := range g.whole {
		was := g.asWas[i]
		if e.Kind != was.Kind || e.I != was.I || e.J != was.J || !impl.SameAct(e.A, was.A) ||
			!sameRoom(e.A.Dep, was.A.Dep) || !sameRoom(e.A.Ups, was.A.Ups) {
			t.Fatalf("%s: event %d of an argument was written: %+v, was %+v", what, i-spareRoom, e, was)
		}
	}
	g.acts.check(t, what+", acts of events")
}

// overwriteWorld fills a world, each list of it, and the spare room behind them.
// It fails if two lists share memory.
func overwriteWorld(t *testing.T, w impl.World) {
	t.Helper()
	var acts []impl.Act
	var lists [][]impl.Act
	houses, net := w.H[:cap(w.H)], w.Net[:cap(w.Net)]
	for _, h := range houses {
		lists = append(lists, h.P.L[:cap(h.P.L)], h.P.Wait[:cap(h.P.Wait)])
	}
	for _, l := range lists {
		acts = append(acts, l...)
	}
	for _, note := range net {
		acts = append(acts, note.A)
	}
	overwriteActs(t, acts)
	for i, l := range lists {
		for k := range l {
			l[k] = impl.Act{R: -1000 - i}
		}
	}
	for i, l := range lists {
		if slices.ContainsFunc(l, func(a impl.Act) bool { return a.R != -1000-i }) {
			t.Fatal("two lists of acts of one answer share memory", i)
		}
	}
	for i, h := range houses {
		for _, other := range houses {
			fill(other.P.V, false)
		}
		fill(h.P.V, true)
		for k, other := range houses {
			if !filled(other.P.V, k == i) {
				t.Fatal("two lists of flags of one answer share memory", i, k)
			}
		}
	}
	for i := range houses {
		houses[i] = impl.House{Kept: "overwritten", Late: "overwritten"}
	}
	for i := range net {
		net[i] = impl.Note{To: -1000}
	}
}
