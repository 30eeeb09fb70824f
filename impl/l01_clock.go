package impl

const MaxPlaces = 4
const MaxCount = 100000

// clock is a clock of chapter 1 as a value. The counts of places that it does
// not have stay 0, so that two clocks for as many places are the same if and
// only if their arrays are.
type clock struct {
	places int
	counts [MaxPlaces]int
}

// readClock gives the clock that v is, and false if v is none.
func readClock(v []int) (clock, bool) {
	if len(v) < 1 || len(v) > MaxPlaces {
		return clock{}, false
	}
	c := clock{places: len(v)}
	for i := range c.places {
		if v[i] < 0 || v[i] > MaxCount {
			return clock{}, false
		}
		c.counts[i] = v[i]
	}
	return c, true
}

// readPair gives both clocks, and false if they are not clocks for as many
// places: their arrays have one length, so only places tells unlike ones apart.
func readPair(a, b []int) (clock, clock, bool) {
	c, cOk := readClock(a)
	d, dOk := readClock(b)
	if !cOk || !dOk || c.places != d.places {
		return clock{}, clock{}, false
	}
	return c, d, true
}

func (c clock) greater(d clock) clock {
	for i := range c.places {
		c.counts[i] = max(c.counts[i], d.counts[i])
	}
	return c
}

func (c clock) lesser(d clock) clock {
	for i := range c.places {
		c.counts[i] = min(c.counts[i], d.counts[i])
	}
	return c
}

// leq relies on d being the greater of both exactly if no count of c passes it.
func (c clock) leq(d clock) bool {
	return c.greater(d).counts == d.counts
}

func (c clock) sum() int {
	total := 0
	for i := range c.places {
		total += c.counts[i]
	}
	return total
}

func (c clock) list() []int {
	v := make([]int, c.places)
	copy(v, c.counts[:])
	return v
}

func ClockOk(v []int) bool {
	_, ok := readClock(v)
	return ok
}

func ClockLeq(a []int, b []int) bool {
	c, d, ok := readPair(a, b)
	return ok && c.leq(d)
}

func ClockMax(a []int, b []int) []int {
	c, d, ok := readPair(a, b)
	if !ok {
		return nil
	}
	return c.greater(d).list()
}

func ClockMin(a []int, b []int) []int {
	c, d, ok := readPair(a, b)
	if !ok {
		return nil
	}
	return c.lesser(d).list()
}

func ClockSum(v []int) int {
	c, ok := readClock(v)
	if !ok {
		return -1
	}
	return c.sum()
}

func Beside(a []int, b []int) bool {
	c, d, ok := readPair(a, b)
	return ok && !c.leq(d) && !d.leq(c)
}
