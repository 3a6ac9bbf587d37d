package tests

import (
	"math"
	"math/big"
	"slices"
	"testing"

	"loop.example/g00355/impl"
)

// buffer is a right configuration that meets the limits of Head and Cells exactly.
func buffer() impl.Config {
	return impl.Config{Ports: 3, Cells: 67, Xoff: 4, Xon: 1, Head: 15, Lossy: 10, Delay: 1}
}

// numbersOf names the numbers of a configuration, each by where it stands.
func numbersOf(c *impl.Config) map[string]*int64 {
	return map[string]*int64{
		"Ports": &c.Ports, "Cells": &c.Cells, "Xoff": &c.Xoff, "Xon": &c.Xon, "Head": &c.Head, "Lossy": &c.Lossy, "Delay": &c.Delay,
	}
}

func configWith(c impl.Config, name string, n int64) impl.Config {
	*numbersOf(&c)[name] = n
	return c
}

// rightConfigByWords goes by the document's words, in numbers that can't wrap.
func rightConfigByWords(c impl.Config) bool {
	wide := func(n int64) *big.Int { return big.NewInt(n) }
	plus := func(a, b *big.Int) *big.Int { return new(big.Int).Add(a, b) }
	times := func(a, b *big.Int) *big.Int { return new(big.Int).Mul(a, b) }
	within := func(n, least, most *big.Int) bool { return n.Cmp(least) >= 0 && n.Cmp(most) <= 0 }
	need := times(wide(5), plus(times(wide(2), wide(c.Delay)), wide(1)))
	sum := plus(times(wide(c.Ports), plus(wide(c.Xoff), wide(c.Head))), wide(c.Lossy))
	return within(wide(c.Ports), wide(2), wide(4)) && within(wide(c.Cells), wide(1), wide(1000)) &&
		within(wide(c.Xoff), wide(1), wide(1000)) && within(wide(c.Xon), wide(0), plus(wide(c.Xoff), wide(-1))) &&
		within(wide(c.Head), wide(0), wide(1000)) && within(wide(c.Lossy), wide(0), wide(1000)) &&
		within(wide(c.Delay), wide(1), wide(3)) && wide(c.Head).Cmp(need) >= 0 && sum.Cmp(wide(c.Cells)) <= 0
}

// rightCountsByWords is of a right configuration.
func rightCountsByWords(c impl.Config, n impl.Counts) bool {
	if int64(len(n.Used)) != c.Ports || int64(len(n.Paused)) != c.Ports || n.Lossy < 0 || n.Lossy > c.Lossy {
		return false
	}
	for _, used := range n.Used {
		if used < 0 || used > c.Xoff+c.Head {
			return false
		}
	}
	return true
}

func sameCounts(a, b impl.Counts) bool {
	return slices.Equal(a.Used, b.Used) && a.Lossy == b.Lossy && slices.Equal(a.Paused, b.Paused)
}

func isZeroCounts(n impl.Counts) bool {
	return sameCounts(n, impl.Counts{})
}

func cloneCounts(n impl.Counts) impl.Counts {
	return impl.Counts{Used: slices.Clone(n.Used), Lossy: n.Lossy, Paused: slices.Clone(n.Paused)}
}

func newCounts(t *testing.T, c impl.Config) impl.Counts {
	t.Helper()
	n, ok := impl.CountsNew(c)
	want := impl.Counts{Used: make([]int64, c.Ports), Paused: make([]bool, c.Ports)}
	if !ok || !impl.CountsOk(c, n) || !sameCounts(n, want) {
		t.Fatalf("CountsNew(%v) = %v, %v", c, n, ok)
	}
	return n
}

// countsUsed are counts of that configuration with so much used at each port.
func countsUsed(c impl.Config, used int64) impl.Counts {
	return impl.Counts{Used: slices.Repeat([]int64{used}, int(c.Ports)), Paused: make([]bool, c.Ports)}
}

// movedByWords is what comes of so many cells more, or less when they are below 0, limits left aside.
func movedByWords(n impl.Counts, port, prio, by int64) impl.Counts {
	n = cloneCounts(n)
	if prio == impl.Lossless {
		n.Used[port] += by
	} else {
		n.Lossy += by
	}
	return n
}

func admit(t *testing.T, c impl.Config, n impl.Counts, port, prio, cells int64) impl.Counts {
	t.Helper()
	m, ok := impl.Admitted(c, n, port, prio, cells)
	if !ok || !impl.CountsOk(c, m) || !sameCounts(m, movedByWords(n, port, prio, cells)) {
		t.Fatalf("Admitted(%v, %v, %d, %d, %d) = %v, %v", c, n, port, prio, cells, m, ok)
	}
	return m
}

func release(t *testing.T, c impl.Config, n impl.Counts, port, prio, cells int64) impl.Counts {
	t.Helper()
	m, ok := impl.Released(c, n, port, prio, cells)
	if !ok || !impl.CountsOk(c, m) || !sameCounts(m, movedByWords(n, port, prio, -cells)) {
		t.Fatalf("Released(%v, %v, %d, %d, %d) = %v, %v", c, n, port, prio, cells, m, ok)
	}
	return m
}

func refusesAdmitted(t *testing.T, c impl.Config, n impl.Counts, port, prio, cells int64) {
	t.Helper()
	if m, ok := impl.Admitted(c, n, port, prio, cells); ok || !isZeroCounts(m) {
		t.Errorf("Admitted(%v, %v, %d, %d, %d) = %v, %v", c, n, port, prio, cells, m, ok)
	}
}

func refusesReleased(t *testing.T, c impl.Config, n impl.Counts, port, prio, cells int64) {
	t.Helper()
	if m, ok := impl.Released(c, n, port, prio, cells); ok || !isZeroCounts(m) {
		t.Errorf("Released(%v, %v, %d, %d, %d) = %v, %v", c, n, port, prio, cells, m, ok)
	}
}

// refusesCounts checks the answers that each function has for counts that are not right.
func refusesCounts(t *testing.T, c impl.Config, n impl.Counts) {
	t.Helper()
	if impl.CountsOk(c, n) {
		t.Errorf("CountsOk(%v, %v)", c, n)
	}
	for port := int64(-1); port <= 4; port++ {
		for prio := range int64(impl.Lossless + 1) {
			for cells := int64(1); cells <= impl.MaxCells; cells++ {
				refusesAdmitted(t, c, n, port, prio, cells)
				refusesReleased(t, c, n, port, prio, cells)
			}
		}
	}
	if m, told := impl.Signals(c, n); !isZeroCounts(m) || len(told) != 0 {
		t.Errorf("Signals(%v, %v) = %v, %v", c, n, m, told)
	}
}

// checkConfig holds what each function says of a configuration against the document's words.
func checkConfig(t *testing.T, c impl.Config) {
	t.Helper()
	if impl.ConfigOk(c) != rightConfigByWords(c) {
		t.Fatalf("ConfigOk(%v) = %v", c, impl.ConfigOk(c))
	}
	if rightConfigByWords(c) {
		newCounts(t, c)
		return
	}
	if n, ok := impl.CountsNew(c); ok || !isZeroCounts(n) {
		t.Errorf("CountsNew(%v) = %v, %v", c, n, ok)
	}
	refusesCounts(t, c, impl.Counts{})
	if c.Ports >= 0 && c.Ports <= 5 {
		refusesCounts(t, c, countsUsed(c, 0))
		refusesCounts(t, c, countsUsed(c, 5))
	}
}

func rightConfig(t *testing.T, c impl.Config) {
	t.Helper()
	if !impl.ConfigOk(c) {
		t.Errorf("refused: %v", c)
	}
	checkConfig(t, c)
}

func wrongConfig(t *testing.T, c impl.Config) {
	t.Helper()
	if impl.ConfigOk(c) {
		t.Errorf("accepted: %v", c)
	}
	checkConfig(t, c)
}

func TestConfigLimits(t *testing.T) {
	wide := impl.Config{Ports: 2, Cells: 1000, Xoff: 10, Xon: 5, Head: 45, Lossy: 10, Delay: 1}
	for _, x := range []struct {
		name        string
		least, most int64
	}{
		{"Ports", 2, 4}, {"Cells", 120, 1000}, {"Xoff", 6, 450}, {"Xon", 0, 9}, {"Head", 15, 485}, {"Lossy", 0, 890}, {"Delay", 1, 3},
	} {
		rightConfig(t, configWith(wide, x.name, x.least))
		rightConfig(t, configWith(wide, x.name, x.most))
		wrongConfig(t, configWith(wide, x.name, x.least-1))
		wrongConfig(t, configWith(wide, x.name, x.most+1))
	}
	wrongConfig(t, impl.Config{})
}

func TestConfigNumbersFarOff(t *testing.T) {
	far := []int64{
		math.MinInt64, math.MinInt64 + 1, math.MinInt64 / 2, math.MinInt64/2 - 10, math.MinInt32, -1001, -1000, -15, -1,
		1001, 1 << 32, 1<<32 + 3, math.MaxInt64 / 4, math.MaxInt64/4 + 1, math.MaxInt64/2 - 10, math.MaxInt64 / 2, math.MaxInt64/2 + 1, math.MaxInt64 - 1, math.MaxInt64,
	}
	for _, c := range []impl.Config{buffer(), {Ports: 4, Cells: 1000, Xoff: 100, Xon: 50, Head: 35, Lossy: 100, Delay: 3}} {
		for name := range numbersOf(&c) {
			for _, n := range far {
				wrongConfig(t, configWith(c, name, n))
				for other := range numbersOf(&c) {
					for _, m := range []int64{math.MinInt64, math.MaxInt64, -n, n} {
						checkConfig(t, configWith(configWith(c, name, n), other, m))
					}
				}
			}
		}
	}
}

// TestConfigNumbersThatOutweighEachOther has numbers past their limits, but a sum that is within its own.
func TestConfigNumbersThatOutweighEachOther(t *testing.T) {
	for _, c := range []impl.Config{
		{Ports: 2, Cells: 1000, Xoff: 1001, Xon: 1, Head: 15, Lossy: -1100, Delay: 1},
		{Ports: 2, Cells: 1000, Xoff: 1, Xon: 0, Head: 1001, Lossy: -1100, Delay: 1},
		{Ports: 2, Cells: 1000, Xoff: -20, Xon: -21, Head: 40, Lossy: 960, Delay: 1},
		{Ports: 2, Cells: 1000, Xoff: 0, Xon: -1, Head: 15, Lossy: 0, Delay: 1},
		{Ports: 2, Cells: 1000, Xoff: 0, Xon: 0, Head: 15, Lossy: 0, Delay: 1},
		{Ports: 2, Cells: 3000, Xoff: 1000, Xon: 0, Head: 15, Lossy: 0, Delay: 1},
		{Ports: 2, Cells: 3000, Xoff: 1, Xon: 0, Head: 1000, Lossy: 0, Delay: 1},
		{Ports: 2, Cells: 1001, Xoff: 1, Xon: 0, Head: 15, Lossy: 969, Delay: 1},
		{Ports: 4, Cells: 1000, Xoff: 1 << 62, Xon: 0, Head: 15, Lossy: 0, Delay: 1},
		{Ports: 4, Cells: 1000, Xoff: 1, Xon: 0, Head: 1 << 62, Lossy: 0, Delay: 1},
		{Ports: 2, Cells: 1000, Xoff: 1, Xon: 0, Head: 15, Lossy: 0, Delay: math.MaxInt64},
		{Ports: 2, Cells: 1000, Xoff: 1, Xon: 0, Head: 15, Lossy: 0, Delay: math.MinInt64},
		{Ports: 2, Cells: 1000, Xoff: 1, Xon: 0, Head: 15, Lossy: 0, Delay: 0},
		{Ports: 2, Cells: 1000, Xoff: 1, Xon: 0, Head: 45, Lossy: 0, Delay: 4},
		{Ports: 2, Cells: 1000, Xoff: 1, Xon: 0, Head: 0, Lossy: 0, Delay: -1},
		{Ports: 1, Cells: 1000, Xoff: 1, Xon: 0, Head: 15, Lossy: 0, Delay: 1},
		{Ports: 5, Cells: 1000, Xoff: 1, Xon: 0, Head: 15, Lossy: 0, Delay: 1},
		{Ports: 0, Cells: 1000, Xoff: 1, Xon: 0, Head: 15, Lossy: 0, Delay: 1},
		{Ports: -2, Cells: 1000, Xoff: 1, Xon: 0, Head: 15, Lossy: 0, Delay: 1},
	} {
		wrongConfig(t, c)
	}
}

func TestConfigGreatestOfEach(t *testing.T) {
	for _, c := range []impl.Config{
		{Ports: 2, Cells: 32, Xoff: 1, Xon: 0, Head: 15, Lossy: 0, Delay: 1},
		{Ports: 2, Cells: 1000, Xoff: 485, Xon: 484, Head: 15, Lossy: 0, Delay: 1},
		{Ports: 2, Cells: 1000, Xoff: 1, Xon: 0, Head: 499, Lossy: 0, Delay: 3},
		{Ports: 2, Cells: 1000, Xoff: 1, Xon: 0, Head: 15, Lossy: 968, Delay: 1},
		{Ports: 4, Cells: 1000, Xoff: 100, Xon: 99, Head: 150, Lossy: 0, Delay: 3},
	} {
		rightConfig(t, c)
		wrongConfig(t, configWith(c, "Cells", c.Cells-1))
		wrongConfig(t, configWith(c, "Lossy", c.Lossy+1))
		wrongConfig(t, configWith(c, "Head", c.Head+1))
		wrongConfig(t, configWith(c, "Xoff", c.Xoff+1))
		wrongConfig(t, configWith(c, "Xon", c.Xoff))
		wrongConfig(t, configWith(c, "Xon", -1))
	}
}

func TestConfigHeadAndCellsMet(t *testing.T) {
	for ports := int64(2); ports <= 4; ports++ {
		for delay, head := range map[int64]int64{1: 15, 2: 25, 3: 35} {
			for _, lossy := range []int64{0, 1, 10, 500} {
				c := impl.Config{Ports: ports, Cells: ports*(7+head) + lossy, Xoff: 7, Xon: 3, Head: head, Lossy: lossy, Delay: delay}
				rightConfig(t, c)
				rightConfig(t, configWith(c, "Cells", 1000))
				wrongConfig(t, configWith(c, "Cells", c.Cells-1))
				wrongConfig(t, configWith(c, "Lossy", lossy+1))
				wrongConfig(t, configWith(c, "Head", head+1))
				wrongConfig(t, configWith(c, "Xoff", 8))
				wrongConfig(t, configWith(c, "Head", head-1))
				wrongConfig(t, configWith(c, "Delay", delay+1))
			}
		}
	}
}

func TestManyConfigs(t *testing.T) {
	next := numbers(5)
	right := 0
	for range 8000 {
		c := impl.Config{Ports: next(5) + 1, Xoff: next(12), Xon: next(12) - 1, Head: next(40), Lossy: next(20) - 1, Delay: next(4)}
		c.Cells = c.Ports*(c.Xoff+c.Head) + c.Lossy + next(5) - 2
		checkConfig(t, c)
		if rightConfigByWords(c) {
			right++
		}
	}
	if right < 100 {
		t.Errorf("only %d of them were right", right)
	}
}

func TestCountsLimits(t *testing.T) {
	for _, c := range []impl.Config{buffer(), {Ports: 2, Cells: 1000, Xoff: 1, Xon: 0, Head: 35, Lossy: 0, Delay: 3}, {Ports: 4, Cells: 1000, Xoff: 60, Xon: 59, Head: 30, Lossy: 600, Delay: 2}} {
		most := c.Xoff + c.Head
		for _, used := range []int64{0, c.Xon, c.Xoff, most} {
			if n := countsUsed(c, used); !impl.CountsOk(c, n) {
				t.Errorf("CountsOk(%v, %v)", c, n)
			}
		}
		for port := range c.Ports {
			for _, used := range []int64{-1, most + 1, math.MinInt64, math.MaxInt64, 1 << 32, -(1 << 32)} {
				n := newCounts(t, c)
				n.Used[port] = used
				refusesCounts(t, c, n)
			}
			n := newCounts(t, c)
			n.Used[port], n.Paused[port] = most, true
			if !impl.CountsOk(c, n) {
				t.Errorf("CountsOk(%v, %v)", c, n)
			}
		}
		for _, lossy := range []int64{-1, c.Lossy + 1, math.MinInt64, math.MaxInt64, 1 << 32} {
			n := newCounts(t, c)
			n.Lossy = lossy
			refusesCounts(t, c, n)
		}
		n := countsUsed(c, most)
		n.Lossy = c.Lossy
		if !impl.CountsOk(c, n) {
			t.Errorf("CountsOk(%v, %v)", c, n)
		}
	}
}

// TestCountsOfOtherLists has lists of all lengths about that of the ports, each with each.
func TestCountsOfOtherLists(t *testing.T) {
	for ports := int64(2); ports <= 4; ports++ {
		c := configWith(configWith(buffer(), "Ports", ports), "Cells", 1000)
		for used := range int64(6) {
			for paused := range int64(6) {
				n := impl.Counts{Used: make([]int64, used), Paused: make([]bool, paused)}
				if used != ports || paused != ports {
					refusesCounts(t, c, n)
				} else if !impl.CountsOk(c, n) {
					t.Errorf("CountsOk(%v, %v)", c, n)
				}
			}
		}
		refusesCounts(t, c, impl.Counts{})
		refusesCounts(t, c, impl.Counts{Used: make([]int64, 100000), Paused: make([]bool, ports)})
		refusesCounts(t, c, impl.Counts{Used: make([]int64, ports), Paused: make([]bool, 100000)})
	}
}

// TestCountsInTheMiddle holds all counts about the limits against the document's words.
func TestCountsInTheMiddle(t *testing.T) {
	c := impl.Config{Ports: 2, Cells: 38, Xoff: 2, Xon: 1, Head: 15, Lossy: 4, Delay: 1}
	for first := int64(-2); first <= 20; first++ {
		for second := int64(-2); second <= 20; second++ {
			for lossy := int64(-2); lossy <= 6; lossy++ {
				n := impl.Counts{Used: []int64{first, second}, Lossy: lossy, Paused: []bool{true, false}}
				if impl.CountsOk(c, n) != rightCountsByWords(c, n) {
					t.Fatalf("CountsOk(%v, %v) = %v", c, n, impl.CountsOk(c, n))
				}
				checkSignals(t, c, n)
				checkMoves(t, c, n)
			}
		}
	}
}

// checkMoves holds all that is admitted and released, right or not, against the document's words.
func checkMoves(t *testing.T, c impl.Config, n impl.Counts) {
	t.Helper()
	right := rightCountsByWords(c, n)
	for port := int64(-1); port <= c.Ports; port++ {
		for prio := int64(-1); prio <= impl.Lossless+1; prio++ {
			for cells := int64(0); cells <= impl.MaxCells+1; cells++ {
				known := right && port >= 0 && port < c.Ports && prio >= 0 && prio <= impl.Lossless && cells >= 1 && cells <= impl.MaxCells
				if known && rightCountsByWords(c, movedByWords(n, port, prio, cells)) {
					admit(t, c, n, port, prio, cells)
				} else {
					refusesAdmitted(t, c, n, port, prio, cells)
				}
				if known && rightCountsByWords(c, movedByWords(n, port, prio, -cells)) {
					release(t, c, n, port, prio, cells)
				} else {
					refusesReleased(t, c, n, port, prio, cells)
				}
			}
		}
	}
}

func TestAdmittedToTheLimitAndBack(t *testing.T) {
	c := buffer()
	for port := range c.Ports {
		for prio, most := range []int64{c.Lossy, c.Lossy, c.Xoff + c.Head} {
			prio := int64(prio)
			for cells := int64(1); cells <= impl.MaxCells; cells++ {
				start := newCounts(t, c)
				start.Paused[port] = true
				n := start
				for range most / cells {
					n = admit(t, c, n, port, prio, cells)
				}
				rest := most % cells
				refusesAdmitted(t, c, n, port, prio, rest+1)
				if rest > 0 {
					n = admit(t, c, n, port, prio, rest)
				}
				refusesAdmitted(t, c, n, port, prio, 1)
				for range most / cells {
					n = release(t, c, n, port, prio, cells)
				}
				refusesReleased(t, c, n, port, prio, rest+1)
				if rest > 0 {
					n = release(t, c, n, port, prio, rest)
				}
				refusesReleased(t, c, n, port, prio, 1)
				if !sameCounts(n, start) {
					t.Errorf("%v is left of %v", n, start)
				}
			}
		}
	}
}

// TestLimitsAreApart lets one share be full, or empty, while there is room in all others.
func TestLimitsAreApart(t *testing.T) {
	c := buffer()
	for port := range c.Ports {
		full, empty := newCounts(t, c), countsUsed(c, 5)
		full.Used[port] = c.Xoff + c.Head
		empty.Lossy, empty.Used[port] = 5, 0
		for other := range c.Ports {
			if other == port {
				refusesAdmitted(t, c, full, other, impl.Lossless, 1)
				refusesReleased(t, c, empty, other, impl.Lossless, 1)
			} else {
				admit(t, c, full, other, impl.Lossless, 5)
				release(t, c, empty, other, impl.Lossless, 5)
			}
			for prio := range int64(impl.Lossless) {
				admit(t, c, full, other, prio, 5)
				release(t, c, empty, other, prio, 5)
			}
		}
	}
	full, empty := newCounts(t, c), countsUsed(c, 5)
	full.Lossy = c.Lossy
	for port := range c.Ports {
		for prio := range int64(impl.Lossless) {
			refusesAdmitted(t, c, full, port, prio, 1)
			refusesReleased(t, c, empty, port, prio, 1)
		}
		admit(t, c, full, port, impl.Lossless, 5)
		release(t, c, empty, port, impl.Lossless, 5)
	}
}

func TestMovesRefuse(t *testing.T) {
	c := buffer()
	n := countsUsed(c, 8)
	n.Lossy = 5
	checkMoves(t, c, n)
	ends := []int64{math.MinInt64, math.MinInt64 + 1, -(1 << 32), -5, -1, 1<<32 + 1, math.MaxInt64 - 1, math.MaxInt64}
	for _, far := range append(ends, 3, 4) {
		for prio := range int64(impl.Lossless + 1) {
			refusesAdmitted(t, c, n, far, prio, 1)
			refusesReleased(t, c, n, far, prio, 1)
		}
	}
	for port := range c.Ports {
		for _, far := range append(ends, 3, impl.All) {
			refusesAdmitted(t, c, n, port, far, 1)
			refusesReleased(t, c, n, port, far, 1)
		}
		for prio := range int64(impl.Lossless + 1) {
			for _, far := range append(ends, 0, 6) {
				refusesAdmitted(t, c, n, port, prio, far)
				refusesReleased(t, c, n, port, prio, far)
			}
		}
	}
}

// signalsByWords goes by the document's words, one after the other.
func signalsByWords(c impl.Config, n impl.Counts) (impl.Counts, []int64) {
	n = cloneCounts(n)
	var told []int64
	for port, used := range n.Used {
		switch {
		case !n.Paused[port] && used >= c.Xoff:
			n.Paused[port] = true
			told = append(told, 2*int64(port)+1)
		case n.Paused[port] && used <= c.Xon:
			n.Paused[port] = false
			told = append(told, 2*int64(port))
		}
	}
	return n, told
}

// checkSignals holds Signals against the document's words, and wants nothing to be told a second time.
func checkSignals(t *testing.T, c impl.Config, n impl.Counts) (impl.Counts, []int64) {
	t.Helper()
	var want impl.Counts
	var wantTold []int64
	if rightCountsByWords(c, n) {
		want, wantTold = signalsByWords(c, n)
	}
	m, told := impl.Signals(c, n)
	if !sameCounts(m, want) || !slices.Equal(told, wantTold) {
		t.Fatalf("Signals(%v, %v) = %v, %v", c, n, m, told)
	}
	if again, twice := impl.Signals(c, m); !sameCounts(again, m) || len(twice) != 0 {
		t.Fatalf("Signals(%v, %v) = %v, %v, again %v, %v", c, n, m, told, again, twice)
	}
	return m, told
}

func TestSignalsAtXoffAndXon(t *testing.T) {
	c := impl.Config{Ports: 2, Cells: 200, Xoff: 9, Xon: 4, Head: 15, Lossy: 10, Delay: 1}
	for _, x := range []struct {
		used         int64
		paused, then bool
	}{
		{0, false, false}, {4, false, false}, {5, false, false}, {8, false, false}, {9, false, true}, {10, false, true}, {24, false, true},
		{0, true, false}, {3, true, false}, {4, true, false}, {5, true, true}, {8, true, true}, {9, true, true}, {24, true, true},
	} {
		for port := range c.Ports {
			n := newCounts(t, c)
			n.Lossy, n.Used[port], n.Paused[port] = 10, x.used, x.paused
			m, told := checkSignals(t, c, n)
			var want []int64
			if x.paused != x.then && x.then {
				want = []int64{2*port + 1}
			} else if x.paused != x.then {
				want = []int64{2 * port}
			}
			if m.Paused[port] != x.then || m.Used[port] != x.used || m.Lossy != 10 || !slices.Equal(told, want) {
				t.Errorf("%v: Signals(%v) = %v, %v", x, n, m, told)
			}
		}
	}
}

// TestSignalsOfXonJustBelowXoff has no count between the two limits.
func TestSignalsOfXonJustBelowXoff(t *testing.T) {
	for _, xoff := range []int64{1, 2, 7} {
		c := impl.Config{Ports: 2, Cells: 200, Xoff: xoff, Xon: xoff - 1, Head: 15, Delay: 1}
		for used := range xoff + 16 {
			for _, paused := range []bool{false, true} {
				n := countsUsed(c, used)
				n.Paused[0], n.Paused[1] = paused, paused
				m, told := checkSignals(t, c, n)
				if m.Paused[0] != (used >= xoff) || m.Paused[1] != (used >= xoff) || len(told) != 0 && len(told) != 2 {
					t.Errorf("Signals(%v, %v) = %v, %v", c, n, m, told)
				}
			}
		}
	}
}

func TestSignalsOfSeveralPorts(t *testing.T) {
	c := impl.Config{Ports: 4, Cells: 1000, Xoff: 6, Xon: 2, Head: 15, Delay: 1}
	for _, x := range []struct {
		used   []int64
		paused []bool
		told   []int64
	}{
		{[]int64{6, 6, 6, 6}, []bool{false, false, false, false}, []int64{1, 3, 5, 7}},
		{[]int64{2, 2, 2, 2}, []bool{true, true, true, true}, []int64{0, 2, 4, 6}},
		{[]int64{21, 0, 21, 0}, []bool{false, true, false, true}, []int64{1, 2, 5, 6}},
		{[]int64{0, 21, 0, 21}, []bool{true, false, true, false}, []int64{0, 3, 4, 7}},
		{[]int64{5, 3, 6, 2}, []bool{false, true, true, false}, nil},
		{[]int64{5, 6, 3, 2}, []bool{false, false, true, true}, []int64{3, 6}},
	} {
		n := impl.Counts{Used: x.used, Paused: x.paused}
		if _, told := checkSignals(t, c, n); !slices.Equal(told, x.told) {
			t.Errorf("Signals(%v, %v) told %v", c, n, told)
		}
	}
	for at := range int64(1 << 12) {
		n := newCounts(t, c)
		for port := range n.Used {
			n.Used[port] = []int64{2, 3, 5, 6}[at>>(2*port)&3]
			n.Paused[port] = at>>(8+port)&1 == 1
		}
		checkSignals(t, c, n)
	}
}

// TestManyAdmittedAndReleased goes on from new counts, and wants pause and resume to be told in turns.
func TestManyAdmittedAndReleased(t *testing.T) {
	told := map[int64]int{}
	refused := 0
	for seed := range uint32(20) {
		next := numbers(seed)
		ports := int64(seed%3) + 2
		c := impl.Config{Ports: ports, Cells: ports*(6+15) + 12, Xoff: 6, Xon: 2, Head: 15, Lossy: 12, Delay: 1}
		n := newCounts(t, c)
		paused := make([]bool, ports)
		for range 2000 {
			port, prio, cells := next(ports), next(impl.Lossless+1), next(impl.MaxCells)+1
			by, call := cells, impl.Admitted
			if next(2) == 0 {
				by, call = -cells, impl.Released
			}
			m, ok := call(c, n, port, prio, cells)
			if want := movedByWords(n, port, prio, by); ok != rightCountsByWords(c, want) || ok && !sameCounts(m, want) {
				t.Fatalf("%v, %v, %d, %d, %d: %v, %v", c, n, port, prio, by, m, ok)
			}
			if !ok {
				refused++
				continue
			}
			checkBack(t, c, n, m, port, prio, by)
			n = m
			if next(3) > 0 {
				continue
			}
			var l []int64
			n, l = checkSignals(t, c, n)
			for _, signal := range l {
				if pause := signal%2 == 1; paused[signal/2] == pause {
					t.Fatalf("%v: told %d twice", c, signal)
				}
				paused[signal/2] = !paused[signal/2]
				told[signal]++
			}
			if !slices.Equal(n.Paused, paused) {
				t.Fatalf("%v: %v, told %v", c, n, paused)
			}
		}
	}
	if len(told) != 8 || refused < 100 {
		t.Errorf("told %v, refused %d", told, refused)
	}
}

// checkBack wants what was admitted to be released, or the other way round, and the counts to be as they were.
func checkBack(t *testing.T, c impl.Config, before, after impl.Counts, port, prio, by int64) {
	t.Helper()
	var back impl.Counts
	if by > 0 {
		back = release(t, c, after, port, prio, by)
	} else {
		back = admit(t, c, after, port, prio, -by)
	}
	if !sameCounts(back, before) {
		t.Fatalf("%v, %d, %d, %d: %v and back %v", before, port, prio, by, after, back)
	}
}
