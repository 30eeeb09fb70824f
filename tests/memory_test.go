package tests

import (
	"math"
	"slices"
	"testing"
)

const spareRoom = 6

// guardedInts is an argument with marked room around it, so that a write into
// it, ahead of it or behind it is seen.
type guardedInts struct {
	list  []int
	whole []int
	asWas []int
}

func guardInts(values []int) guardedInts {
	whole := make([]int, 0, len(values)+2*spareRoom)
	for i := range spareRoom {
		whole = append(whole, math.MinInt+i)
	}
	whole = append(whole, values...)
	for i := range spareRoom {
		whole = append(whole, math.MaxInt-i)
	}
	return guardedInts{
		list:  whole[spareRoom : spareRoom+len(values)],
		whole: whole,
		asWas: slices.Clone(whole),
	}
}

func (g guardedInts) check(t *testing.T, what string) {
	t.Helper()
	if !slices.Equal(g.whole, g.asWas) {
		t.Fatalf("%s: memory of an argument was written: %v, was %v", what, g.whole, g.asWas)
	}
}

// overwrite fills a result and the spare room behind it: memory that it shares
// with anything else is changed there, too.
func overwrite(result []int) {
	result = result[:cap(result)]
	for i := range result {
		result[i] = -77 - i
	}
}
