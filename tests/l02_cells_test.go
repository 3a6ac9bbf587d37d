package tests

import (
	"math"
	"slices"
	"strings"
	"testing"

	"loop.example/g00355/impl"
)

func newArena(t *testing.T, cells int64) impl.Arena {
	t.Helper()
	a, ok := impl.ArenaNew(cells)
	if !ok {
		t.Fatalf("ArenaNew(%d) is false", cells)
	}
	return a
}

func take(t *testing.T, a impl.Arena, s string) (impl.Arena, int64) {
	t.Helper()
	b, head, ok := impl.Taken(a, s)
	if !ok {
		t.Fatalf("Taken(%v, %q) is false", a, s)
	}
	return b, head
}

func give(t *testing.T, a impl.Arena, head int64) impl.Arena {
	t.Helper()
	b, ok := impl.Given(a, head)
	if !ok {
		t.Fatalf("Given(%v, %d) is false", a, head)
	}
	return b
}

func sameArena(a, b impl.Arena) bool {
	return slices.Equal(a.Next, b.Next) && slices.Equal(a.Data, b.Data) && a.Free == b.Free
}

func isZeroArena(a impl.Arena) bool {
	return sameArena(a, impl.Arena{})
}

// filler answers a text of so many bytes in which no piece of a cell is like the next one.
func filler(size int) string {
	b := make([]byte, size)
	for i := range b {
		b[i] = byte(i*7 + i/10)
	}
	return string(b)
}

// refusesArena checks the answers that each function has for an arena that is not right.
func refusesArena(t *testing.T, a impl.Arena) {
	t.Helper()
	if impl.ArenaOk(a) || len(impl.FreeOf(a)) != 0 {
		t.Errorf("%v: ArenaOk %v, FreeOf %v", a, impl.ArenaOk(a), impl.FreeOf(a))
	}
	if b, head, ok := impl.Taken(a, "x"); ok || head != 0 || !isZeroArena(b) {
		t.Errorf("Taken(%v) = %v, %d, %v", a, b, head, ok)
	}
	for head := int64(-1); head <= 4; head++ {
		refusesHead(t, a, head)
	}
}

func refusesHead(t *testing.T, a impl.Arena, head int64) {
	t.Helper()
	if l, ok := impl.ChainOf(a, head); ok || len(l) != 0 {
		t.Errorf("ChainOf(%v, %d) = %v, %v", a, head, l, ok)
	}
	if s, ok := impl.Held(a, head); ok || s != "" {
		t.Errorf("Held(%v, %d) = %q, %v", a, head, s, ok)
	}
	if b, ok := impl.Given(a, head); ok || !isZeroArena(b) {
		t.Errorf("Given(%v, %d) = %v, %v", a, head, b, ok)
	}
}

func TestArenaNewLimits(t *testing.T) {
	for n := int64(1); n <= impl.MaxArena; n++ {
		a := newArena(t, n)
		free := impl.FreeOf(a)
		if !impl.ArenaOk(a) || int64(len(a.Next)) != n || int64(len(a.Data)) != n || int64(len(free)) != n || a.Free != 0 {
			t.Errorf("ArenaNew(%d) = %v", n, a)
		}
		for i, at := range free {
			if at != int64(i) {
				t.Errorf("ArenaNew(%d): free cells %v", n, free)
			}
		}
	}
	for _, n := range []int64{math.MinInt64, -1, 0, impl.MaxArena + 1, math.MaxInt64} {
		if a, ok := impl.ArenaNew(n); ok || !isZeroArena(a) {
			t.Errorf("ArenaNew(%d) = %v, %v", n, a, ok)
		}
	}
}

func TestArenaTooGreat(t *testing.T) {
	cells := func(n int) impl.Arena {
		a := impl.Arena{Next: make([]int64, n), Data: make([]string, n), Free: -1}
		for i := range n {
			a.Next[i], a.Data[i] = -1, "x"
		}
		return a
	}
	for _, n := range []int{1, impl.MaxArena} {
		if !impl.ArenaOk(cells(n)) {
			t.Errorf("%d cells", n)
		}
	}
	refusesArena(t, cells(0))
	refusesArena(t, cells(impl.MaxArena+1))
	refusesArena(t, cells(100000))
}

func TestArenasNotRight(t *testing.T) {
	for name, a := range map[string]impl.Arena{
		"zero":                        {},
		"in Next twice":               {Next: []int64{2, 2, -1}, Data: []string{"a", "b", "c"}, Free: -1},
		"in Next and in Free":         {Next: []int64{1, -1}, Data: []string{"a", ""}, Free: 1},
		"free chain met twice":        {Next: []int64{1, -1, 1}, Data: []string{"", "", "a"}, Free: 0},
		"behind itself":               {Next: []int64{0}, Data: []string{"a"}, Free: -1},
		"free behind itself":          {Next: []int64{0}, Data: []string{""}, Free: 0},
		"ring of two":                 {Next: []int64{1, 0}, Data: []string{"a", "b"}, Free: -1},
		"ring of three, one free":     {Next: []int64{1, 2, 0, -1}, Data: []string{"a", "b", "c", ""}, Free: 3},
		"empty ring beside free ones": {Next: []int64{1, 0, -1}, Data: []string{"", "", ""}, Free: 2},
		"Next is longer":              {Next: []int64{-1, -1}, Data: []string{"a"}, Free: -1},
		"Data is longer":              {Next: []int64{-1}, Data: []string{"a", "b"}, Free: -1},
		"Next alone":                  {Next: []int64{-1}, Free: -1},
		"Data alone":                  {Data: []string{"a"}, Free: -1},
		"no cells, Free -1":           {Free: -1},
		"free cell with bytes":        {Next: []int64{-1}, Data: []string{"a"}, Free: 0},
		"second free with bytes":      {Next: []int64{1, -1}, Data: []string{"", "a"}, Free: 0},
		"cell with none":              {Next: []int64{-1}, Data: []string{""}, Free: -1},
		"second of chain with none":   {Next: []int64{1, -1}, Data: []string{"a", ""}, Free: -1},
		"cell with 11":                {Next: []int64{-1}, Data: []string{filler(impl.CellSize + 1)}, Free: -1},
		"Free past the last":          {Next: []int64{-1}, Data: []string{"a"}, Free: 1},
		"Free -2":                     {Next: []int64{-1}, Data: []string{"a"}, Free: -2},
		"Free least":                  {Next: []int64{-1}, Data: []string{"a"}, Free: math.MinInt64},
		"Free greatest":               {Next: []int64{-1}, Data: []string{"a"}, Free: math.MaxInt64},
		"Next past the last":          {Next: []int64{1}, Data: []string{"a"}, Free: -1},
		"Next -2":                     {Next: []int64{-2}, Data: []string{"a"}, Free: -1},
		"Next least":                  {Next: []int64{math.MinInt64}, Data: []string{"a"}, Free: -1},
		"Next greatest":               {Next: []int64{math.MaxInt64}, Data: []string{"a"}, Free: -1},
	} {
		t.Run(name, func(t *testing.T) { refusesArena(t, a) })
	}
}

// rightByWords holds a small arena against the document's words, each on its own.
func rightByWords(a impl.Arena) bool {
	n := int64(len(a.Next))
	count := map[int64]int{}
	for _, at := range append([]int64{a.Free}, a.Next...) {
		if at < -1 || at >= n {
			return false
		}
		count[at]++
		if at != -1 && count[at] > 1 {
			return false
		}
	}
	for start := range n {
		at := a.Next[start]
		for range n + 1 {
			if at == start {
				return false
			}
			if at != -1 {
				at = a.Next[at]
			}
		}
	}
	free := map[int64]int{}
	for at := a.Free; at != -1; at = a.Next[at] {
		free[at]++
	}
	for i, s := range a.Data {
		if free[int64(i)] == 1 && s != "" || free[int64(i)] == 0 && (len(s) < 1 || len(s) > 10) {
			return false
		}
	}
	return true
}

// smallArenas hands each arena of n cells with Next and Free of -2 .. n and Data of 0, 1, 10 or 11 bytes.
func smallArenas(n int64, hand func(impl.Arena)) {
	data := []string{"", "s", "0123456789", "0123456789a"}
	a := impl.Arena{Next: make([]int64, n), Data: make([]string, n)}
	var fill func(at int64)
	fill = func(at int64) {
		if at == n {
			for a.Free = -2; a.Free <= n; a.Free++ {
				hand(a)
			}
			return
		}
		for a.Next[at] = -2; a.Next[at] <= n; a.Next[at]++ {
			for _, s := range data {
				a.Data[at] = s
				fill(at + 1)
			}
		}
	}
	fill(0)
}

// rightCount counts the right ones of smallArenas: k cells free in some order, the others in chains,
// of which there are 1, 1, 3, 13 sets for 0 .. 3 cells, each with one of two lengths of Data.
func rightCount(n int) int {
	sets := []int{1, 1, 3, 13}
	count, orders := 0, 1
	for k := range n + 1 {
		count += orders * sets[n-k] << (n - k)
		orders *= n - k
	}
	return count
}

func TestAllSmallArenas(t *testing.T) {
	for n := 1; n <= 3; n++ {
		right := 0
		smallArenas(int64(n), func(a impl.Arena) {
			if impl.ArenaOk(a) != rightByWords(a) {
				t.Fatalf("ArenaOk(%v) = %v", a, impl.ArenaOk(a))
			}
			if impl.ArenaOk(a) {
				right++
				checkArena(t, a)
			}
		})
		if right != rightCount(n) {
			t.Errorf("of %d cells: %d right arenas, want %d", n, right, rightCount(n))
		}
	}
}

// checkArena holds all that a right arena answers against its Next and Data.
func checkArena(t *testing.T, a impl.Arena) {
	t.Helper()
	n := int64(len(a.Next))
	places := map[int64]int{}
	free := impl.FreeOf(a)
	checkLinks(t, a, a.Free, free)
	for _, at := range free {
		places[at]++
	}
	for head := int64(-2); head <= n+1; head++ {
		if head < 0 || head >= n || slices.Contains(free, head) || slices.Contains(a.Next, head) {
			refusesHead(t, a, head)
			continue
		}
		chain, ok := impl.ChainOf(a, head)
		if !ok {
			t.Fatalf("ChainOf(%v, %d) is false", a, head)
		}
		checkLinks(t, a, head, chain)
		for _, at := range chain {
			places[at]++
		}
		checkHeld(t, a, head, chain)
		checkGiven(t, a, head, chain, free)
	}
	for at := range n {
		if places[at] != 1 {
			t.Fatalf("%v: cell %d stands in %d places", a, at, places[at])
		}
	}
	for size := range int(n*impl.CellSize) + 2 {
		checkTaken(t, a, filler(size), free)
	}
}

func checkLinks(t *testing.T, a impl.Arena, from int64, cells []int64) {
	t.Helper()
	for _, at := range cells {
		if from != at {
			t.Fatalf("%v: %v is not what follows", a, cells)
		}
		from = a.Next[at]
	}
	if from != -1 {
		t.Fatalf("%v: %v ends too early", a, cells)
	}
}

func checkHeld(t *testing.T, a impl.Arena, head int64, chain []int64) {
	t.Helper()
	want := ""
	for _, at := range chain {
		want += a.Data[at]
	}
	if s, ok := impl.Held(a, head); !ok || s != want {
		t.Fatalf("Held(%v, %d) = %q, %v", a, head, s, ok)
	}
}

func checkGiven(t *testing.T, a impl.Arena, head int64, chain, free []int64) {
	t.Helper()
	b := give(t, a, head)
	if !impl.ArenaOk(b) || !slices.Equal(impl.FreeOf(b), slices.Concat(chain, free)) {
		t.Fatalf("Given(%v, %d) = %v", a, head, b)
	}
	checkOthers(t, a, b, slices.Concat(chain, free))
	refusesHead(t, b, head)
}

func checkTaken(t *testing.T, a impl.Arena, s string, free []int64) {
	t.Helper()
	b, head, ok := impl.Taken(a, s)
	need := (len(s) + 9) / 10
	if s == "" || need > len(free) {
		if ok || head != 0 || !isZeroArena(b) {
			t.Fatalf("Taken(%v, %q) = %v, %d, %v", a, s, b, head, ok)
		}
		return
	}
	if !ok || !impl.ArenaOk(b) || head != free[0] || !slices.Equal(impl.FreeOf(b), free[need:]) {
		t.Fatalf("Taken(%v, %q) = %v, %d, %v", a, s, b, head, ok)
	}
	if chain, ok := impl.ChainOf(b, head); !ok || !slices.Equal(chain, free[:need]) {
		t.Fatalf("Taken(%v, %q): chain %v, %v", a, s, chain, ok)
	}
	if held, ok := impl.Held(b, head); !ok || held != s {
		t.Fatalf("Taken(%v, %q): held %q, %v", a, s, held, ok)
	}
	for i, at := range free[:need] {
		if want := s[10*i : min(10*i+10, len(s))]; b.Data[at] != want {
			t.Fatalf("Taken(%v, %q): cell %d has %q", a, s, at, b.Data[at])
		}
	}
	checkOthers(t, a, b, free)
}

// checkOthers wants all cells but those of touched to be in b as they are in a.
func checkOthers(t *testing.T, a, b impl.Arena, touched []int64) {
	t.Helper()
	if len(a.Next) != len(b.Next) || len(a.Data) != len(b.Data) {
		t.Fatalf("%v has not the cells of %v", b, a)
	}
	for i := range a.Next {
		if !slices.Contains(touched, int64(i)) && (a.Next[i] != b.Next[i] || a.Data[i] != b.Data[i]) {
			t.Fatalf("cell %d is another one in %v than in %v", i, b, a)
		}
	}
}

func TestTakenToTheLastCell(t *testing.T) {
	for _, n := range []int64{1, 2, 7, impl.MaxArena} {
		a := newArena(t, n)
		all := filler(int(n) * impl.CellSize)
		full, head := take(t, a, all)
		if s, ok := impl.Held(full, head); !ok || s != all || full.Free != -1 || len(impl.FreeOf(full)) != 0 {
			t.Errorf("%d cells: %q, %v, Free %d", n, s, ok, full.Free)
		}
		for _, s := range []string{all + "x", all + all, ""} {
			if b, head, ok := impl.Taken(a, s); ok || head != 0 || !isZeroArena(b) {
				t.Errorf("%d cells took %d bytes", n, len(s))
			}
		}
		if _, _, ok := impl.Taken(full, "x"); ok {
			t.Errorf("%d full cells took a byte", n)
		}
		if b := give(t, full, head); !sameArena(b, a) {
			t.Errorf("%d cells given back: %v", n, b)
		}
	}
}

func TestTakenCellsInFull(t *testing.T) {
	a := newArena(t, 4)
	b, head := take(t, a, "0123456789abcdefghijX")
	want := impl.Arena{Next: []int64{1, 2, -1, -1}, Data: []string{"0123456789", "abcdefghij", "X", ""}, Free: 3}
	if head != 0 || !sameArena(b, want) {
		t.Errorf("%v, %d", b, head)
	}
	c, head := take(t, b, "0123456789")
	want = impl.Arena{Next: []int64{1, 2, -1, -1}, Data: []string{"0123456789", "abcdefghij", "X", "0123456789"}, Free: -1}
	if head != 3 || !sameArena(c, want) {
		t.Errorf("%v, %d", c, head)
	}
	d := give(t, c, 0)
	want = impl.Arena{Next: []int64{1, 2, -1, -1}, Data: []string{"", "", "", "0123456789"}, Free: 0}
	if !sameArena(d, want) {
		t.Errorf("%v", d)
	}
	e := give(t, d, 3)
	want = impl.Arena{Next: []int64{1, 2, -1, 0}, Data: []string{"", "", "", ""}, Free: 3}
	if !sameArena(e, want) {
		t.Errorf("%v", e)
	}
}

func TestHeadsThatBeginNoChain(t *testing.T) {
	a, _ := take(t, newArena(t, 6), filler(25))
	for _, head := range []int64{math.MinInt64, -2, -1, 1, 2, 3, 4, 5, 6, 7, math.MaxInt64} {
		refusesHead(t, a, head)
	}
	if l, ok := impl.ChainOf(a, 0); !ok || !slices.Equal(l, []int64{0, 1, 2}) {
		t.Errorf("%v, %v", l, ok)
	}
}

// arenaModel is what an arena should hold: each chain by its head, and the free cells in order.
type arenaModel struct {
	chains map[int64][]int64
	texts  map[int64]string
	free   []int64
}

func (m *arenaModel) take(s string) int64 {
	need := (len(s) + 9) / 10
	head := m.free[0]
	m.chains[head] = slices.Clone(m.free[:need])
	m.texts[head] = s
	m.free = slices.Clone(m.free[need:])
	return head
}

func (m *arenaModel) give(head int64) {
	m.free = slices.Concat(m.chains[head], m.free)
	delete(m.chains, head)
	delete(m.texts, head)
}

func (m *arenaModel) heads() []int64 {
	var heads []int64
	for head := range m.chains {
		heads = append(heads, head)
	}
	slices.Sort(heads)
	return heads
}

func (m *arenaModel) check(t *testing.T, a impl.Arena) {
	t.Helper()
	if !impl.ArenaOk(a) || !slices.Equal(impl.FreeOf(a), m.free) {
		t.Fatalf("%v: free %v, want %v", a, impl.FreeOf(a), m.free)
	}
	for head, chain := range m.chains {
		if l, ok := impl.ChainOf(a, head); !ok || !slices.Equal(l, chain) {
			t.Fatalf("%v: chain of %d: %v, want %v", a, head, l, chain)
		}
		if s, ok := impl.Held(a, head); !ok || s != m.texts[head] {
			t.Fatalf("%v: held by %d: %q, want %q", a, head, s, m.texts[head])
		}
	}
}

func TestManyChainsTakenAndGiven(t *testing.T) {
	for _, n := range []int64{1, 3, 10, impl.MaxArena} {
		a := newArena(t, n)
		m := arenaModel{chains: map[int64][]int64{}, texts: map[int64]string{}, free: impl.FreeOf(a)}
		state := uint32(n)
		next := func(below int) int {
			state = state*1664525 + 1013904223
			return int(state>>8) % below
		}
		for range 1500 {
			if heads := m.heads(); len(heads) > 0 && next(2) == 0 {
				head := heads[next(len(heads))]
				a = give(t, a, head)
				m.give(head)
			} else if s := filler(next(60) + 1); (len(s)+9)/10 <= len(m.free) {
				b, head := take(t, a, s)
				if want := m.take(s); head != want {
					t.Fatalf("head %d, want %d", head, want)
				}
				a = b
			} else if _, _, ok := impl.Taken(a, s); ok {
				t.Fatalf("%v took %d bytes", a, len(s))
			}
			m.check(t, a)
		}
	}
}

func TestChainOfPartlyFilledCells(t *testing.T) {
	a := impl.Arena{Next: []int64{2, -1, 1, -1}, Data: []string{"a", "0123456789", "bc", ""}, Free: 3}
	if !impl.ArenaOk(a) {
		t.Fatal("not right")
	}
	checkArena(t, a)
	if s, ok := impl.Held(a, 0); !ok || s != "abc0123456789" {
		t.Errorf("%q, %v", s, ok)
	}
}

func TestBytesOfAnyKind(t *testing.T) {
	a, head := take(t, newArena(t, 9), "\x00\xff\xfe\n é世界 \x00"+strings.Repeat("\x00", 40))
	if s, ok := impl.Held(a, head); !ok || s != "\x00\xff\xfe\n é世界 \x00"+strings.Repeat("\x00", 40) {
		t.Errorf("%q, %v", s, ok)
	}
}
