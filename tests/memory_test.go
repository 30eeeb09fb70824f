package tests

import (
	"math"
	"slices"
	"testing"

	"loop.example/g00717/impl"
)

const spareRoom = 6

// guarded is a list of an argument with marked room around it, so that a write
// into it, ahead of it or behind it is seen.
type guarded[T comparable] struct {
	list  []T
	whole []T
	asWas []T
}

func guard[T comparable](values []T, mark func(i int) T) guarded[T] {
	whole := make([]T, 0, len(values)+2*spareRoom)
	for i := range spareRoom {
		whole = append(whole, mark(i))
	}
	whole = append(whole, values...)
	for i := range spareRoom {
		whole = append(whole, mark(spareRoom+i))
	}
	return guarded[T]{
		list:  whole[spareRoom : spareRoom+len(values)],
		whole: whole,
		asWas: slices.Clone(whole),
	}
}

func guardInts(values []int) guarded[int] {
	return guard(values, func(i int) int { return math.MinInt + i })
}

func (g guarded[T]) check(t *testing.T, what string) {
	t.Helper()
	if !slices.Equal(g.whole, g.asWas) {
		t.Fatalf("%s: memory of an argument was written: %v, was %v", what, g.whole, g.asWas)
	}
}

// guardedAct is an act whose lists are guarded.
type guardedAct struct {
	act impl.Act
	dep guarded[int]
	ups guarded[impl.Up]
}

func guardAct(a impl.Act) guardedAct {
	g := guardedAct{act: a, dep: guardInts(a.Dep)}
	g.ups = guard(a.Ups, func(i int) impl.Up { return impl.Up{Kind: math.MaxInt, Val: math.MinInt + i} })
	g.act.Dep, g.act.Ups = g.dep.list, g.ups.list
	return g
}

func (g guardedAct) check(t *testing.T, what string) {
	t.Helper()
	g.dep.check(t, what+", Dep")
	g.ups.check(t, what+", Ups")
}

// overwrite fills a result and the spare room behind it: memory that it shares
// with anything else is changed there, too.
func overwrite(result []int) {
	result = result[:cap(result)]
	for i := range result {
		result[i] = -77 - i
	}
}
