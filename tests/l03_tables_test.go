package tests

import (
	"math"
	"slices"
	"testing"

	"loop.example/g00355/impl"
)

// tableOf answers a right table of n entries, with another Port and At each.
func tableOf(n int) []impl.Entry {
	var l []impl.Entry
	for i := range int64(n) {
		l = append(l, impl.Entry{Mac: 2*i + 1, Port: i % impl.MaxPorts, At: 30 - i})
	}
	return l
}

// tableWith is a right table of three entries in which e stands at the place at instead.
func tableWith(at int, e impl.Entry) []impl.Entry {
	l := []impl.Entry{{Mac: 5, Port: 1, At: 4}, {Mac: 10, Port: 2, At: 5}, {Mac: 15, Port: 3, At: 6}}
	l[at] = e
	return l
}

func learn(t *testing.T, l []impl.Entry, mac, port, now int64) []impl.Entry {
	t.Helper()
	m, ok := impl.Learned(l, mac, port, now)
	if !ok || !impl.TableOk(m) {
		t.Fatalf("Learned(%v, %d, %d, %d) = %v, %v", l, mac, port, now, m, ok)
	}
	return m
}

// refusesTable checks the answers that each function has for a table that is not right.
func refusesTable(t *testing.T, l []impl.Entry) {
	t.Helper()
	if impl.TableOk(l) {
		t.Errorf("TableOk(%v)", l)
	}
	for mac := int64(0); mac <= 21; mac++ {
		if m, ok := impl.Learned(l, mac, 0, 1); ok || len(m) != 0 {
			t.Errorf("Learned(%v, %d, 0, 1) = %v, %v", l, mac, m, ok)
		}
		if port := impl.PortOf(l, mac, 1); port != -1 {
			t.Errorf("PortOf(%v, %d, 1) = %d", l, mac, port)
		}
	}
	for _, e := range l {
		if port := impl.PortOf(l, e.Mac, 5); port != -1 {
			t.Errorf("PortOf(%v, %d, 5) = %d", l, e.Mac, port)
		}
	}
	for _, now := range []int64{0, 1, 20, impl.MaxTime} {
		if m := impl.Aged(l, now); len(m) != 0 {
			t.Errorf("Aged(%v, %d) = %v", l, now, m)
		}
	}
}

func TestTableSizes(t *testing.T) {
	if !impl.TableOk(nil) || !impl.TableOk([]impl.Entry{}) {
		t.Error("a table of none")
	}
	for n := range impl.MaxTable + 1 {
		if !impl.TableOk(tableOf(n)) {
			t.Errorf("a table of %d", n)
		}
	}
	refusesTable(t, tableOf(impl.MaxTable+1))
	refusesTable(t, tableOf(10))
	refusesTable(t, make([]impl.Entry, 100000))
}

func TestTableLimitsOfEntries(t *testing.T) {
	for _, e := range []impl.Entry{{Mac: 1}, {Mac: 20}, {Mac: 7, Port: impl.MaxPorts - 1}, {Mac: 7, At: impl.MaxTime}, {Mac: 20, Port: 3, At: impl.MaxTime}} {
		if !impl.TableOk([]impl.Entry{e}) {
			t.Errorf("refused: %v", e)
		}
	}
	wrong := []impl.Entry{{}}
	for _, n := range []int64{math.MinInt64, -1, 0, 21, 255, 256 + 7, math.MaxInt64} {
		wrong = append(wrong, impl.Entry{Mac: n})
	}
	for _, n := range []int64{math.MinInt64, -1, impl.MaxPorts, 256 + 1, math.MaxInt64} {
		wrong = append(wrong, impl.Entry{Mac: 7, Port: n})
	}
	for _, n := range []int64{math.MinInt64, -1, impl.MaxTime + 1, math.MaxInt64} {
		wrong = append(wrong, impl.Entry{Mac: 7, At: n})
	}
	for _, e := range wrong {
		refusesTable(t, []impl.Entry{e})
	}
}

func TestTableWrongAtEachPlace(t *testing.T) {
	macs := [3]int64{5, 10, 15}
	for at, mac := range macs {
		if !impl.TableOk(tableWith(at, impl.Entry{Mac: mac, Port: 3, At: impl.MaxTime})) {
			t.Errorf("refused at %d", at)
		}
		refusesTable(t, tableWith(at, impl.Entry{Mac: mac, Port: impl.MaxPorts}))
		refusesTable(t, tableWith(at, impl.Entry{Mac: mac, Port: -1}))
		refusesTable(t, tableWith(at, impl.Entry{Mac: mac, At: impl.MaxTime + 1}))
		refusesTable(t, tableWith(at, impl.Entry{Mac: mac, At: -1}))
		refusesTable(t, tableWith(at, impl.Entry{Mac: macs[(at+1)%3]}))
		refusesTable(t, tableWith(at, impl.Entry{Mac: macs[(at+2)%3], Port: 1, At: 4}))
	}
	refusesTable(t, tableWith(2, impl.Entry{Mac: 7}))
	refusesTable(t, tableWith(2, impl.Entry{Mac: 21}))
	refusesTable(t, tableWith(1, impl.Entry{Mac: 4}))
	refusesTable(t, tableWith(1, impl.Entry{Mac: 16}))
	refusesTable(t, tableWith(0, impl.Entry{Mac: 11}))
	refusesTable(t, tableWith(0, impl.Entry{Mac: 0}))
	refusesTable(t, []impl.Entry{{Mac: 8}, {Mac: 8}})
	refusesTable(t, []impl.Entry{{Mac: 8}, {Mac: 7}})
}

func TestLearnedRefuses(t *testing.T) {
	for _, n := range []int{0, 1, impl.MaxTable} {
		l := tableOf(n)
		for _, x := range [][3]int64{
			{0, 0, 0}, {-1, 0, 0}, {21, 0, 0}, {impl.All, 0, 0}, {math.MinInt64, 0, 0}, {math.MaxInt64, 0, 0},
			{1, -1, 0}, {1, impl.MaxPorts, 0}, {1, math.MinInt64, 0}, {1, math.MaxInt64, 0},
			{1, 0, -1}, {1, 0, impl.MaxTime + 1}, {1, 0, math.MinInt64}, {1, 0, math.MaxInt64},
		} {
			if m, ok := impl.Learned(l, x[0], x[1], x[2]); ok || len(m) != 0 {
				t.Errorf("Learned(%v, %v) = %v, %v", l, x, m, ok)
			}
		}
		for _, x := range [][3]int64{{1, 0, 0}, {20, impl.MaxPorts - 1, impl.MaxTime}} {
			m := learn(t, l, x[0], x[1], x[2])
			if !slices.Contains(m, impl.Entry{Mac: x[0], Port: x[1], At: x[2]}) {
				t.Errorf("Learned(%v, %v) = %v", l, x, m)
			}
		}
	}
}

func TestLearnedAnew(t *testing.T) {
	for _, n := range []int{1, 3, impl.MaxTable} {
		l := tableOf(n)
		for i, e := range l {
			for _, now := range []int64{0, e.At - 1, e.At, e.At + 1, 1000, impl.MaxTime} {
				want := slices.Clone(l)
				want[i] = impl.Entry{Mac: e.Mac, Port: 3 - e.Port, At: now}
				if m := learn(t, l, e.Mac, 3-e.Port, now); !slices.Equal(m, want) {
					t.Errorf("Learned(%v, %d) = %v", l, e.Mac, m)
				}
			}
		}
	}
}

func TestLearnedInOrder(t *testing.T) {
	var l []impl.Entry
	for _, mac := range []int64{20, 1, 10, 9, 11, 2, 19} {
		l = learn(t, l, mac, mac%4, 100-mac)
	}
	var want []impl.Entry
	for _, mac := range []int64{1, 2, 9, 10, 11, 19, 20} {
		want = append(want, impl.Entry{Mac: mac, Port: mac % 4, At: 100 - mac})
	}
	if !slices.Equal(l, want) {
		t.Errorf("%v", l)
	}
}

// TestLearnedMakesRoom lets one of eight have the least At alone, at each place.
func TestLearnedMakesRoom(t *testing.T) {
	for at := range impl.MaxTable {
		l := tableOf(impl.MaxTable)
		for i := range l {
			l[i].At = 50
		}
		l[at].At = 49
		for _, x := range [][2]int64{{2, 60}, {8, 49}, {20, 0}, {16, 50}} {
			m := learn(t, l, x[0], 2, x[1])
			if len(m) != impl.MaxTable || !slices.Contains(m, impl.Entry{Mac: x[0], Port: 2, At: x[1]}) {
				t.Errorf("Learned(%v, %v) = %v", l, x, m)
			}
			for i, e := range l {
				if slices.Contains(m, e) != (i != at) {
					t.Errorf("Learned(%v, %v) = %v", l, x, m)
				}
			}
		}
	}
}

func TestLearnedLeastOfMore(t *testing.T) {
	l := tableOf(impl.MaxTable)
	for i := range l {
		l[i].At = 7
	}
	l[0].At, l[1].At = 9, 8
	goes := func(mac, now int64) []int64 {
		var gone []int64
		m := learn(t, l, mac, 0, now)
		for _, e := range l {
			if !slices.Contains(m, e) {
				gone = append(gone, e.Mac)
			}
		}
		return gone
	}
	for _, now := range []int64{0, 6, 7, 8, 9, 10, impl.MaxTime} {
		for _, mac := range []int64{2, 4, 6, 8, 16, 17, 20} {
			if gone := goes(mac, now); !slices.Equal(gone, []int64{l[2].Mac}) {
				t.Errorf("Learned(%v, %d, 0, %d): %v went", l, mac, now, gone)
			}
		}
	}
}

func TestPortOfByAge(t *testing.T) {
	l := []impl.Entry{{Mac: 3, Port: 0, At: 0}, {Mac: 4, Port: 2, At: 100}, {Mac: 5, Port: 3, At: impl.MaxTime}}
	for _, x := range []struct{ mac, now, want int64 }{
		{3, 0, 0}, {3, impl.MaxAge, 0}, {3, impl.MaxAge + 1, -1}, {3, impl.MaxTime, -1},
		{4, 0, 2}, {4, 99, 2}, {4, 100, 2}, {4, 100 + impl.MaxAge, 2}, {4, 101 + impl.MaxAge, -1}, {4, impl.MaxTime, -1},
		{5, 0, 3}, {5, impl.MaxTime, 3},
		{3, -1, -1}, {5, -1, -1}, {5, impl.MaxTime + 1, -1}, {5, math.MaxInt64, -1}, {5, math.MinInt64, -1},
		{2, 0, -1}, {6, 0, -1}, {0, 0, -1}, {-1, 0, -1}, {impl.All, 0, -1}, {math.MinInt64, 0, -1}, {math.MaxInt64, 0, -1},
	} {
		if port := impl.PortOf(l, x.mac, x.now); port != x.want {
			t.Errorf("PortOf(%v, %d, %d) = %d", l, x.mac, x.now, port)
		}
	}
	if port := impl.PortOf(nil, 1, 0); port != -1 {
		t.Errorf("of none: %d", port)
	}
}

func TestAgedByAge(t *testing.T) {
	l := []impl.Entry{{Mac: 3, Port: 1, At: 100}, {Mac: 4, Port: 2, At: 0}, {Mac: 5, Port: 3, At: impl.MaxTime}, {Mac: 9, At: 101}}
	for _, x := range []struct {
		now  int64
		want []int
	}{
		{0, []int{0, 1, 2, 3}}, {impl.MaxAge, []int{0, 1, 2, 3}}, {impl.MaxAge + 1, []int{0, 2, 3}},
		{100 + impl.MaxAge, []int{0, 2, 3}}, {101 + impl.MaxAge, []int{2, 3}}, {102 + impl.MaxAge, []int{2}},
		{impl.MaxTime, []int{2}}, {impl.MaxTime + 1, nil}, {-1, nil}, {math.MaxInt64, nil}, {math.MinInt64, nil},
	} {
		var want []impl.Entry
		for _, at := range x.want {
			want = append(want, l[at])
		}
		if m := impl.Aged(l, x.now); !slices.Equal(m, want) {
			t.Errorf("Aged(%v, %d) = %v", l, x.now, m)
		}
	}
	if m := impl.Aged(nil, 0); len(m) != 0 {
		t.Errorf("of none: %v", m)
	}
}

// checkAged wants an aged table to know just what the whole one knows, now and later.
func checkAged(t *testing.T, l []impl.Entry, now int64) {
	t.Helper()
	aged := impl.Aged(l, now)
	if !impl.TableOk(aged) {
		t.Fatalf("Aged(%v, %d) = %v", l, now, aged)
	}
	for later := now; later <= now+2*impl.MaxAge+2; later++ {
		for mac := int64(0); mac <= 21; mac++ {
			if impl.PortOf(aged, mac, later) != impl.PortOf(l, mac, later) {
				t.Fatalf("Aged(%v, %d) = %v: %d at %d", l, now, aged, mac, later)
			}
		}
		if !slices.Equal(impl.Aged(aged, later), impl.Aged(l, later)) {
			t.Fatalf("Aged(%v, %d) = %v: aged again at %d", l, now, aged, later)
		}
	}
	for _, e := range aged {
		if impl.PortOf(l, e.Mac, now) != e.Port {
			t.Fatalf("Aged(%v, %d) = %v: %d is not known", l, now, aged, e.Mac)
		}
	}
}

// tableModel keeps who was seen where, at the place of the address; At -1 for one that is not there.
type tableModel [21]impl.Entry

func newTableModel() tableModel {
	var m tableModel
	for mac := range m {
		m[mac].At = -1
	}
	return m
}

func (m *tableModel) learn(e impl.Entry) {
	m[e.Mac] = e
	if len(m.list()) <= impl.MaxTable {
		return
	}
	least := -1
	for mac, x := range m {
		if x.At >= 0 && int64(mac) != e.Mac && (least < 0 || x.At < m[least].At) {
			least = mac
		}
	}
	m[least].At = -1
}

func (m *tableModel) list() []impl.Entry {
	var l []impl.Entry
	for _, e := range m {
		if e.At >= 0 {
			l = append(l, e)
		}
	}
	return l
}

func TestManyLearnedAndAged(t *testing.T) {
	for seed := range uint32(20) {
		next := numbers(seed)
		var l []impl.Entry
		m := newTableModel()
		for now := int64(0); now < 300; now += next(4) {
			e := impl.Entry{Mac: next(20) + 1, Port: next(impl.MaxPorts), At: max(0, now+next(7)-3)}
			before := l
			l = learn(t, l, e.Mac, e.Port, e.At)
			m.learn(e)
			if !slices.Equal(l, m.list()) {
				t.Fatalf("Learned(%v, %v) = %v, want %v", before, e, l, m.list())
			}
			if impl.PortOf(l, e.Mac, e.At) != e.Port || impl.PortOf(l, e.Mac, e.At+impl.MaxAge) != e.Port {
				t.Fatalf("%v does not know %v", l, e)
			}
			checkAged(t, l, now)
		}
	}
}

// numbers answers a function that makes numbers from 0 up to a limit, the same ones from the same seed.
func numbers(seed uint32) func(below int64) int64 {
	state := seed*2654435761 + 1
	return func(below int64) int64 {
		state = state*1664525 + 1013904223
		return int64(state>>8) % below
	}
}
