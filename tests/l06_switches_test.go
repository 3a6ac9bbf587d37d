package tests

import (
	"maps"
	"math"
	"slices"
	"strings"
	"testing"

	"loop.example/g00355/impl"
)

// held is a packet to be, and the ports in whose lanes it waits.
type held struct {
	id    int64
	in    int64
	frame impl.Frame
	at    []int64
}

var pauseFrame = impl.Frame{Kind: impl.FrPause, Prio: impl.Lossless}

var resumeFrame = impl.Frame{Kind: impl.FrResume, Prio: impl.Lossless}

// endsOfInt64 are numbers that no limit of a switch reaches.
var endsOfInt64 = []int64{math.MinInt64, math.MinInt64 + 1, -(1 << 32), 1 << 32, math.MaxInt64 - 1, math.MaxInt64}

// cellsByWords counts five bytes ahead of the body and four behind it.
func cellsByWords(f impl.Frame) int64 {
	return int64((len(f.Body) + 9 + 9) / 10)
}

func sameLane(a, b impl.Lane) bool {
	return a.Stop == b.Stop && slices.Equal(a.Strict, b.Strict) && slices.EqualFunc(a.Queues, b.Queues, slices.Equal) && sameRound(a.Round, b.Round)
}

func sameSwitch(a, b impl.Switch) bool {
	return a.Config == b.Config && a.Now == b.Now && a.Next == b.Next && slices.Equal(a.Table, b.Table) && sameCounts(a.Counts, b.Counts) &&
		slices.Equal(a.Packets, b.Packets) && slices.EqualFunc(a.Lanes, b.Lanes, sameLane) && a.Drops == b.Drops && a.Lost == b.Lost
}

func isZeroSwitch(s impl.Switch) bool {
	return sameSwitch(s, impl.Switch{})
}

func cloneLane(l impl.Lane) impl.Lane {
	n := l
	n.Strict, n.Queues, n.Round = slices.Clone(l.Strict), slices.Clone(l.Queues), cloneRound(l.Round)
	for i := range n.Queues {
		n.Queues[i] = slices.Clone(n.Queues[i])
	}
	return n
}

func cloneSwitch(s impl.Switch) impl.Switch {
	n := s
	n.Table, n.Counts, n.Packets, n.Lanes = slices.Clone(s.Table), cloneCounts(s.Counts), slices.Clone(s.Packets), slices.Clone(s.Lanes)
	for i := range n.Lanes {
		n.Lanes[i] = cloneLane(n.Lanes[i])
	}
	return n
}

// changedSwitch is s, itself left as it was, with that change.
func changedSwitch(s impl.Switch, change func(*impl.Switch)) impl.Switch {
	n := cloneSwitch(s)
	change(&n)
	return n
}

func emptyLane() impl.Lane {
	return impl.Lane{Queues: make([][]int64, 2), Round: impl.Round{Quanta: []int64{2, 4}, Deficit: make([]int64, 2), Fresh: true, Sizes: make([][]int64, 2)}}
}

// hold puts a packet into a switch, behind all others, as the document says of right ones.
func hold(s *impl.Switch, h held) {
	s.Packets = append(s.Packets, impl.Packet{Id: h.id, In: h.in, Refs: int64(len(h.at)), Frame: h.frame})
	s.Next = h.id + 1
	cells := cellsByWords(h.frame)
	s.Counts = movedByWords(s.Counts, h.in, h.frame.Prio, cells)
	for _, port := range h.at {
		l := &s.Lanes[port]
		if h.frame.Prio == impl.Lossless {
			l.Strict = append(l.Strict, h.id)
			continue
		}
		l.Queues[h.frame.Prio] = append(l.Queues[h.frame.Prio], h.id)
		l.Round.Sizes[h.frame.Prio] = append(l.Round.Sizes[h.frame.Prio], cells)
	}
}

// switchOf is a switch of c in which these wait.
func switchOf(c impl.Config, packets ...held) impl.Switch {
	s := impl.Switch{Config: c, Next: 1, Counts: countsUsed(c, 0)}
	for range c.Ports {
		s.Lanes = append(s.Lanes, emptyLane())
	}
	for _, h := range packets {
		hold(&s, h)
	}
	return s
}

// busySwitch has something in each list, and room beneath each limit.
func busySwitch() impl.Switch {
	c := impl.Config{Ports: 3, Cells: 200, Xoff: 9, Xon: 3, Head: 20, Lossy: 40, Delay: 1}
	s := switchOf(c,
		held{2, 0, data(impl.All, 1, impl.Lossless, "hi"), []int64{1, 2}},
		held{3, 1, data(1, 2, 0, "a"), []int64{0}},
		held{5, 1, data(1, 2, 1, filler(12)), []int64{0, 2}},
		held{6, 2, data(4, 3, impl.Lossless, filler(40)), []int64{0, 1, 2}},
		held{7, 0, data(1, 1, 0, filler(23)), []int64{0, 1}},
		held{9, 1, data(9, 2, 1, ""), []int64{2}},
		held{10, 0, data(20, 1, impl.Lossless, filler(30)), []int64{1}},
		held{12, 2, data(impl.All, 3, 0, ""), []int64{0, 1}})
	s.Now, s.Drops, s.Lost = 40, 3, 4
	s.Table = []impl.Entry{{Mac: 1, Port: 0, At: 40}, {Mac: 2, Port: 1, At: 20}, {Mac: 7, Port: 2, At: 19}, {Mac: 20, Port: 2, At: 0}}
	s.Counts.Paused[2] = true
	s.Lanes[1].Stop = true
	s.Lanes[0].Round.Deficit[0], s.Lanes[0].Round.Turn, s.Lanes[0].Round.Fresh = 6, 0, false
	s.Lanes[2].Round.Deficit[1], s.Lanes[2].Round.Turn = 4, 1
	return s
}

func TestSwitchesOfTheTestsAreRight(t *testing.T) {
	rightSwitch(t, busySwitch())
	rightSwitch(t, switchOf(buffer()))
}

// lanesWith counts the lanes in which an Id stands.
func lanesWith(s impl.Switch, id int64) int64 {
	count := int64(0)
	for _, l := range s.Lanes {
		if slices.Contains(slices.Concat(append(slices.Clone(l.Queues), l.Strict)...), id) {
			count++
		}
	}
	return count
}

// rightIdsByWords tells whether these rise and are of packets of that Prio.
func rightIdsByWords(s impl.Switch, ids []int64, prio int64) bool {
	for i, id := range ids {
		at := slices.IndexFunc(s.Packets, func(p impl.Packet) bool { return p.Id == id })
		if at < 0 || s.Packets[at].Frame.Prio != prio || i > 0 && ids[i-1] >= id {
			return false
		}
	}
	return len(ids) <= 1000
}

// rightLaneByWords wants right packets.
func rightLaneByWords(s impl.Switch, l impl.Lane) bool {
	if len(l.Queues) != 2 || len(l.Round.Deficit) != 2 || len(l.Round.Sizes) != 2 || !slices.Equal(l.Round.Quanta, []int64{2, 4}) || !rightRoundByWords(l.Round) {
		return false
	}
	if !rightIdsByWords(s, l.Strict, 2) || !rightIdsByWords(s, l.Queues[0], 0) || !rightIdsByWords(s, l.Queues[1], 1) {
		return false
	}
	for q, ids := range l.Queues {
		var cells []int64
		for _, p := range s.Packets {
			if slices.Contains(ids, p.Id) {
				cells = append(cells, cellsByWords(p.Frame))
			}
		}
		if !slices.Equal(cells, l.Round.Sizes[q]) {
			return false
		}
	}
	return true
}

func rightSwitchTableByWords(s impl.Switch) bool {
	for i, e := range s.Table {
		if e.Mac < 1 || e.Mac > 20 || e.Port < 0 || e.Port >= s.Config.Ports || e.At < 0 || e.At > s.Now || i > 0 && s.Table[i-1].Mac >= e.Mac {
			return false
		}
	}
	return len(s.Table) <= 8
}

func rightPacketsByWords(s impl.Switch) bool {
	used, lossy := make([]int64, s.Config.Ports), int64(0)
	for i, p := range s.Packets {
		if p.Id < 1 || p.Id >= s.Next || p.In < 0 || p.In >= s.Config.Ports || p.Frame.Kind != 1 || !impl.FrameOk(p.Frame) || i > 0 && s.Packets[i-1].Id >= p.Id {
			return false
		}
		if p.Refs < 1 || p.Refs != lanesWith(s, p.Id) {
			return false
		}
		if p.Frame.Prio == 2 {
			used[p.In] += cellsByWords(p.Frame)
		} else {
			lossy += cellsByWords(p.Frame)
		}
	}
	return len(s.Packets) <= 1000 && slices.Equal(used, s.Counts.Used) && lossy == s.Counts.Lossy
}

// rightSwitchByWords goes by the document's words, one after the other.
func rightSwitchByWords(s impl.Switch) bool {
	if !rightConfigByWords(s.Config) || !rightCountsByWords(s.Config, s.Counts) {
		return false
	}
	for _, n := range []int64{s.Now, s.Next - 1, s.Drops, s.Lost} {
		if n < 0 || n > 1000000000 {
			return false
		}
	}
	if s.Next > 1000000000 || !rightSwitchTableByWords(s) || !rightPacketsByWords(s) || int64(len(s.Lanes)) != s.Config.Ports {
		return false
	}
	for _, l := range s.Lanes {
		if !rightLaneByWords(s, l) {
			return false
		}
	}
	return true
}

// refusesSwitch checks the answers that each function has for a switch that is not right, whatever else is wrong.
func refusesSwitch(t *testing.T, s impl.Switch) {
	t.Helper()
	for _, port := range []int64{0, 1, s.Config.Ports, -1, math.MaxInt64} {
		for _, f := range []impl.Frame{data(1, 2, 0, ""), data(2, 2, impl.Lossless, "x"), pauseFrame, resumeFrame, {}} {
			if n, code := impl.Arrived(s, port, f); code != impl.SwWrong || !isZeroSwitch(n) {
				t.Errorf("Arrived(%+v, %d, %v) = %+v, %d", s, port, f, n, code)
			}
		}
		if n, l, ok := impl.Sent(s, port); ok || len(l) != 0 || !isZeroSwitch(n) {
			t.Errorf("Sent(%+v, %d) = %+v, %v, %v", s, port, n, l, ok)
		}
	}
	if n, ok := impl.Ticked(s); ok || !isZeroSwitch(n) {
		t.Errorf("Ticked(%+v) = %+v, %v", s, n, ok)
	}
}

func rightSwitch(t *testing.T, s impl.Switch) {
	t.Helper()
	if !impl.SwitchOk(s) || !rightSwitchByWords(s) {
		t.Fatalf("not right: %+v: %v, %v", s, impl.SwitchOk(s), rightSwitchByWords(s))
	}
}

func wrongSwitch(t *testing.T, s impl.Switch) {
	t.Helper()
	if impl.SwitchOk(s) || rightSwitchByWords(s) {
		t.Errorf("right: %+v: %v, %v", s, impl.SwitchOk(s), rightSwitchByWords(s))
	}
	refusesSwitch(t, s)
}

// eitherSwitch is right or not, as the document's words say.
func eitherSwitch(t *testing.T, s impl.Switch) bool {
	t.Helper()
	right := rightSwitchByWords(s)
	if right {
		rightSwitch(t, s)
	} else {
		wrongSwitch(t, s)
	}
	return right
}

func TestSwitchNewOfEachConfig(t *testing.T) {
	for ports := int64(2); ports <= impl.MaxPorts; ports++ {
		c := configWith(configWith(buffer(), "Ports", ports), "Cells", 200)
		s, ok := impl.SwitchNew(c)
		if !ok || !sameSwitch(s, switchOf(c)) {
			t.Errorf("SwitchNew(%v) = %+v, %v", c, s, ok)
		}
		rightSwitch(t, s)
	}
}

func TestSwitchNewRefuses(t *testing.T) {
	for name := range numbersOf(&impl.Config{}) {
		for _, n := range append([]int64{-1, 1001}, endsOfInt64...) {
			c := configWith(buffer(), name, n)
			if s, ok := impl.SwitchNew(c); ok || !isZeroSwitch(s) {
				t.Errorf("SwitchNew(%v) = %+v, %v", c, s, ok)
			}
			wrongSwitch(t, changedSwitch(busySwitch(), func(s *impl.Switch) { s.Config = configWith(s.Config, name, n) }))
		}
	}
	for _, c := range []impl.Config{{}, configWith(buffer(), "Ports", 1), configWith(buffer(), "Head", 14), configWith(buffer(), "Cells", 66)} {
		if s, ok := impl.SwitchNew(c); ok || !isZeroSwitch(s) {
			t.Errorf("SwitchNew(%v) = %+v, %v", c, s, ok)
		}
	}
	wrongSwitch(t, impl.Switch{})
}

func TestSwitchLimitsOfNumbers(t *testing.T) {
	for _, x := range []struct {
		name        string
		least, most int64
		of          func(*impl.Switch) *int64
	}{
		{"Now", 40, impl.MaxTime, func(s *impl.Switch) *int64 { return &s.Now }},
		{"Next", 13, impl.MaxTime, func(s *impl.Switch) *int64 { return &s.Next }},
		{"Drops", 0, impl.MaxTime, func(s *impl.Switch) *int64 { return &s.Drops }},
		{"Lost", 0, impl.MaxTime, func(s *impl.Switch) *int64 { return &s.Lost }},
	} {
		for _, n := range []int64{x.least, x.least + 1, x.most - 1, x.most} {
			rightSwitch(t, changedSwitch(busySwitch(), func(s *impl.Switch) { *x.of(s) = n }))
		}
		for _, n := range append([]int64{x.least - 1, x.most + 1, -1}, endsOfInt64...) {
			wrongSwitch(t, changedSwitch(busySwitch(), func(s *impl.Switch) { *x.of(s) = n }))
			wrongSwitch(t, changedSwitch(switchOf(buffer()), func(s *impl.Switch) { *x.of(s) = min(n, -1) }))
		}
	}
	rightSwitch(t, changedSwitch(switchOf(buffer()), func(s *impl.Switch) { s.Now = 0 }))
	wrongSwitch(t, changedSwitch(switchOf(buffer()), func(s *impl.Switch) { s.Next = 0 }))
}

func TestSwitchTable(t *testing.T) {
	entry := func(mac, port, at int64) impl.Entry { return impl.Entry{Mac: mac, Port: port, At: at} }
	with := func(ports int64, l ...impl.Entry) impl.Switch {
		s := switchOf(configWith(configWith(buffer(), "Ports", ports), "Cells", 200))
		s.Now, s.Table = 40, l
		return s
	}
	for ports := int64(2); ports <= impl.MaxPorts; ports++ {
		rightSwitch(t, with(ports, entry(1, ports-1, 40), entry(20, 0, 0)))
		rightSwitch(t, with(ports, entry(5, ports-1, 0)))
		for _, port := range append([]int64{-1, ports}, endsOfInt64...) {
			wrongSwitch(t, with(ports, entry(1, port, 40)))
			wrongSwitch(t, with(ports, entry(1, 0, 40), entry(2, port, 40)))
		}
		for _, at := range append([]int64{-1, 41}, endsOfInt64...) {
			wrongSwitch(t, with(ports, entry(1, 0, at)))
			wrongSwitch(t, with(ports, entry(1, 0, 40), entry(2, 1, at)))
		}
		wrongSwitch(t, with(ports, entry(0, 0, 40)))
		wrongSwitch(t, with(ports, entry(21, 0, 40)))
		wrongSwitch(t, with(ports, entry(impl.All, 0, 40)))
		wrongSwitch(t, with(ports, entry(2, 0, 40), entry(1, 0, 40)))
		wrongSwitch(t, with(ports, entry(2, 0, 40), entry(2, 1, 40)))
	}
	rightSwitch(t, with(4, tableOf(8)...))
	wrongSwitch(t, with(4, tableOf(9)...))
	wrongSwitch(t, with(3, tableOf(8)...))
	late := with(2, entry(1, 0, impl.MaxTime))
	late.Now = impl.MaxTime
	rightSwitch(t, late)
	late.Now--
	wrongSwitch(t, late)
}

// numbersIn are all the numbers of a switch, where they stand.
func numbersIn(s *impl.Switch) []*int64 {
	l := []*int64{&s.Now, &s.Next, &s.Drops, &s.Lost, &s.Counts.Lossy}
	numbers := numbersOf(&s.Config)
	for _, name := range slices.Sorted(maps.Keys(numbers)) {
		l = append(l, numbers[name])
	}
	for i := range s.Table {
		l = append(l, &s.Table[i].Mac, &s.Table[i].Port, &s.Table[i].At)
	}
	for i := range s.Packets {
		p := &s.Packets[i]
		l = append(l, &p.Id, &p.In, &p.Refs, &p.Frame.Kind, &p.Frame.Dst, &p.Frame.Src, &p.Frame.Prio)
	}
	for i := range s.Lanes {
		l = append(l, &s.Lanes[i].Round.Turn)
	}
	for _, list := range listsIn(s) {
		for i := range *list {
			l = append(l, &(*list)[i])
		}
	}
	return l
}

// listsIn are all the lists of numbers of a switch, where they stand.
func listsIn(s *impl.Switch) []*[]int64 {
	l := []*[]int64{&s.Counts.Used}
	for i := range s.Lanes {
		lane := &s.Lanes[i]
		l = append(l, &lane.Strict, &lane.Round.Quanta, &lane.Round.Deficit)
		for q := range lane.Queues {
			l = append(l, &lane.Queues[q])
		}
		for q := range lane.Round.Sizes {
			l = append(l, &lane.Round.Sizes[q])
		}
	}
	return l
}

// TestSwitchEachNumberOff moves each number of a switch on its own, and holds what comes of it against the document's words.
func TestSwitchEachNumberOff(t *testing.T) {
	base := busySwitch()
	right := 0
	for at := range numbersIn(&base) {
		before := cloneSwitch(base)
		number := numbersIn(&base)[at]
		kept := *number
		for _, n := range append([]int64{kept - 1, kept + 1, kept - 2, kept + 2, 0, 1, 2, 3, 4, 5, 6, 9, -1, 255}, endsOfInt64...) {
			*number = n
			if eitherSwitch(t, base) && n != kept {
				right++
			}
		}
		*number = kept
		if !sameSwitch(base, before) {
			t.Fatal("the test has spoilt its switch")
		}
	}
	if right < 100 {
		t.Errorf("only %d were right", right)
	}
}

// TestSwitchEachListOff makes each list shorter, longer and of another order.
func TestSwitchEachListOff(t *testing.T) {
	base := busySwitch()
	for at := range listsIn(&base) {
		for _, change := range []func([]int64) []int64{
			func(l []int64) []int64 { return nil },
			func(l []int64) []int64 { return l[:max(0, len(l)-1)] },
			func(l []int64) []int64 { return l[min(1, len(l)):] },
			func(l []int64) []int64 { return append(l, 0) },
			func(l []int64) []int64 { return append(l, 1) },
			func(l []int64) []int64 { return append([]int64{2}, l...) },
			func(l []int64) []int64 { return append(l, 3) },
			func(l []int64) []int64 { return append(l, 12) },
			func(l []int64) []int64 { return append(l, l...) },
			func(l []int64) []int64 { slices.Reverse(l); return l },
		} {
			s := cloneSwitch(base)
			list := listsIn(&s)[at]
			before := slices.Clone(*list)
			*list = change(*list)
			if slices.Equal(*list, before) {
				continue
			}
			wrongSwitch(t, s)
		}
	}
}

// TestSwitchOtherLists has lists of one fewer or more than a switch has.
func TestSwitchOtherLists(t *testing.T) {
	for _, base := range []impl.Switch{busySwitch(), switchOf(buffer())} {
		for _, change := range []func(*impl.Switch){
			func(s *impl.Switch) { s.Lanes = nil },
			func(s *impl.Switch) { s.Lanes = s.Lanes[:2] },
			func(s *impl.Switch) { s.Lanes = append(s.Lanes, emptyLane()) },
			func(s *impl.Switch) { s.Lanes[2] = impl.Lane{} },
			func(s *impl.Switch) { s.Lanes[1].Queues = nil },
			func(s *impl.Switch) { s.Lanes[1].Queues = s.Lanes[1].Queues[:1] },
			func(s *impl.Switch) { s.Lanes[1].Queues = append(s.Lanes[1].Queues, nil) },
			func(s *impl.Switch) { s.Lanes[0].Round = impl.Round{} },
			func(s *impl.Switch) { s.Lanes[0].Round.Sizes = s.Lanes[0].Round.Sizes[:1] },
			func(s *impl.Switch) { s.Lanes[0].Round.Sizes = append(s.Lanes[0].Round.Sizes, nil) },
			func(s *impl.Switch) { s.Counts.Used = s.Counts.Used[:2] },
			func(s *impl.Switch) { s.Counts.Used = append(s.Counts.Used, 0) },
			func(s *impl.Switch) { s.Counts.Paused = s.Counts.Paused[:2] },
			func(s *impl.Switch) { s.Counts.Paused = append(s.Counts.Paused, false) },
			func(s *impl.Switch) { s.Counts = impl.Counts{} },
		} {
			wrongSwitch(t, changedSwitch(base, change))
		}
	}
}

func TestSwitchQuantaAndDeficits(t *testing.T) {
	for _, quanta := range [][]int64{{4, 2}, {2, 5}, {3, 4}, {1, 4}, {2, 3}, {2}, {2, 4, 1}, nil} {
		wrongSwitch(t, changedSwitch(switchOf(buffer()), func(s *impl.Switch) {
			r := &s.Lanes[2].Round
			r.Quanta, r.Deficit, r.Sizes = quanta, make([]int64, len(quanta)), make([][]int64, len(quanta))
		}))
		wrongSwitch(t, changedSwitch(switchOf(buffer()), func(s *impl.Switch) {
			r, l := &s.Lanes[0].Round, &s.Lanes[0]
			r.Quanta, r.Deficit, r.Sizes, l.Queues = quanta, make([]int64, len(quanta)), make([][]int64, len(quanta)), make([][]int64, len(quanta))
		}))
	}
	for deficit := int64(-1); deficit <= 10; deficit++ {
		for turn := int64(-1); turn <= 2; turn++ {
			for class := range 2 {
				for _, fresh := range []bool{false, true} {
					eitherSwitch(t, changedSwitch(busySwitch(), func(s *impl.Switch) {
						r := &s.Lanes[0].Round
						r.Deficit, r.Turn, r.Fresh = make([]int64, 2), turn, fresh
						r.Deficit[class] = deficit
					}))
				}
			}
		}
	}
}

// TestSwitchPacketsNotRight has packets of which all else is as it must be.
func TestSwitchPacketsNotRight(t *testing.T) {
	f := data(impl.All, 1, 0, "x")
	c := buffer()
	rightSwitch(t, switchOf(c, held{1, 0, f, []int64{1}}, held{2, 0, f, []int64{1}}))
	// Nothing in the document bars a packet from the lane of the port from which it came.
	rightSwitch(t, switchOf(c, held{1, 0, f, []int64{0, 1, 2}}))
	wrongSwitch(t, switchOf(c, held{0, 0, f, []int64{1}}))
	wrongSwitch(t, switchOf(c, held{-1, 0, f, []int64{1}}, held{1, 0, f, []int64{1}}))
	wrongSwitch(t, switchOf(c, held{1, 0, f, []int64{1}}, held{1, 0, f, []int64{2}}))
	wrongSwitch(t, switchOf(c, held{2, 0, f, []int64{1}}, held{1, 0, f, []int64{2}}))
	wrongSwitch(t, switchOf(c, held{1, 0, f, []int64{1, 1}}))
	wrongSwitch(t, switchOf(c, held{1, 0, f, nil}))
	wrongSwitch(t, switchOf(c, held{1, 0, pauseFrame, []int64{1}}))
	wrongSwitch(t, switchOf(c, held{1, 0, resumeFrame, []int64{1}}))
	for _, frame := range wrongFrames() {
		if frame.Prio >= 0 && frame.Prio <= impl.Lossless && len(frame.Body) <= 41 {
			wrongSwitch(t, switchOf(c, held{1, 0, frame, []int64{1}}))
		}
	}
	// A frame that is not right has no cells: even so it must not wait.
	for _, frame := range []impl.Frame{data(0, 1, impl.Lossless, ""), data(1, 21, impl.Lossless, ""), data(1, 1, impl.Lossless, filler(41))} {
		wrongSwitch(t, changedSwitch(switchOf(c, held{1, 0, frame, []int64{1}}), func(s *impl.Switch) { s.Counts.Used[0] = 0 }))
	}
	for prio := range int64(impl.Lossless + 1) {
		twice := switchOf(c, held{1, 0, data(impl.All, 1, prio, "x"), []int64{1, 2}})
		twice.Packets = append(twice.Packets, twice.Packets[0])
		twice.Counts = movedByWords(twice.Counts, 0, prio, 1)
		wrongSwitch(t, twice)
	}
	for _, in := range append([]int64{-1, 3}, endsOfInt64...) {
		wrongSwitch(t, changedSwitch(switchOf(c, held{1, 0, f, []int64{1}}), func(s *impl.Switch) { s.Packets[0].In = in }))
	}
	next := switchOf(c, held{1, 0, f, []int64{1}}, held{impl.MaxTime - 1, 0, f, []int64{1}})
	rightSwitch(t, next)
	wrongSwitch(t, switchOf(c, held{impl.MaxTime, 0, f, []int64{1}}))
	wrongSwitch(t, switchOf(c, held{math.MaxInt64, 0, f, []int64{1}}))
	next.Next--
	wrongSwitch(t, next)
}

// TestSwitchRefsAreLanes counts lanes of the same number as Refs, but of another packet.
func TestSwitchRefsAreLanes(t *testing.T) {
	for prio := range int64(impl.Lossless + 1) {
		f := data(impl.All, 1, prio, "x")
		s := switchOf(buffer(), held{1, 0, f, []int64{0, 1}}, held{2, 0, f, []int64{2}})
		rightSwitch(t, s)
		for first := int64(-1); first <= 4; first++ {
			for second := int64(-1); second <= 4; second++ {
				s.Packets[0].Refs, s.Packets[1].Refs = first, second
				if eitherSwitch(t, s) != (first == 2 && second == 1) {
					t.Errorf("%d and %d", first, second)
				}
			}
		}
		for _, far := range endsOfInt64 {
			s.Packets[0].Refs, s.Packets[1].Refs = far, 1
			wrongSwitch(t, s)
		}
	}
}

// TestSwitchIdsInOtherQueues moves an Id to each list in which it must not stand.
func TestSwitchIdsInOtherQueues(t *testing.T) {
	for prio := range int64(impl.Lossless + 1) {
		for other := range int64(impl.Lossless + 1) {
			s := switchOf(buffer(), held{1, 0, data(impl.All, 1, other, "x"), []int64{1}})
			rightSwitch(t, s)
			s.Packets[0].Frame.Prio = prio
			s.Counts = movedByWords(countsUsed(s.Config, 0), 0, prio, 1)
			if eitherSwitch(t, s) != (prio == other) {
				t.Errorf("%d in the list of %d", prio, other)
			}
		}
	}
}

func TestSwitchOfUsedAndLossy(t *testing.T) {
	base := busySwitch()
	if !slices.Equal(base.Counts.Used, []int64{6, 0, 5}) || base.Counts.Lossy != 1+3+4+1+1 {
		t.Fatalf("counts %v", base.Counts)
	}
	for _, by := range []int64{-1, 1} {
		wrongSwitch(t, changedSwitch(base, func(s *impl.Switch) { s.Counts.Lossy += by }))
		for port := range base.Counts.Used {
			wrongSwitch(t, changedSwitch(base, func(s *impl.Switch) { s.Counts.Used[port] += by }))
			wrongSwitch(t, changedSwitch(base, func(s *impl.Switch) { s.Counts.Used[port] += by; s.Counts.Lossy -= by }))
			wrongSwitch(t, changedSwitch(base, func(s *impl.Switch) { s.Counts.Used[port] += by; s.Counts.Used[(port+1)%3] -= by }))
		}
	}
	for at := range int64(8) {
		s := cloneSwitch(base)
		for port := range s.Counts.Paused {
			s.Counts.Paused[port] = at>>port&1 == 1
		}
		rightSwitch(t, s)
	}
}

// fullSwitch has a thousand packets of one cell: so many are lossless, half of them of each port, all others not.
func fullSwitch(lossless int64, at ...int64) impl.Switch {
	c := impl.Config{Ports: 2, Cells: 1000, Xoff: lossless/2 - 15, Head: 15, Lossy: 1000 - lossless, Delay: 1}
	var packets []held
	for id := int64(1); id <= 1000; id++ {
		prio := int64(impl.Lossless)
		if id > lossless {
			prio = id % 2
		}
		packets = append(packets, held{id, id % 2, data(1, 2, prio, "x"), at})
	}
	return switchOf(c, packets...)
}

func TestSwitchThatIsFull(t *testing.T) {
	for _, at := range [][]int64{{0}, {1}, {0, 1}} {
		for _, lossless := range []int64{32, 500, 1000} {
			s := fullSwitch(lossless, at...)
			rightSwitch(t, s)
			for prio := range int64(impl.Lossless + 1) {
				if n, code := impl.Arrived(s, 0, data(1, 2, prio, "x")); code != impl.SwDrop || !slices.Equal(n.Packets, s.Packets) {
					t.Errorf("code %d", code)
				}
			}
			hold(&s, held{1001, 0, data(1, 2, impl.Lossless, "x"), at})
			wrongSwitch(t, s)
		}
	}
	s := fullSwitch(1000, 1)
	if len(s.Packets) != impl.MaxQueue || len(s.Lanes[1].Strict) != impl.MaxQueue {
		t.Errorf("%d packets", len(s.Packets))
	}
	wrongSwitch(t, changedSwitch(s, func(s *impl.Switch) { s.Lanes[1].Strict = append(s.Lanes[1].Strict, 1000) }))
	wrongSwitch(t, changedSwitch(s, func(s *impl.Switch) { s.Lanes[1].Strict = append(s.Lanes[1].Strict, 1001) }))
	wrongSwitch(t, changedSwitch(s, func(s *impl.Switch) { s.Packets = s.Packets[:999] }))
}

// tickedByWords is of right switches.
func tickedByWords(s impl.Switch) (impl.Switch, bool) {
	if s.Now == 1000000000 {
		return impl.Switch{}, false
	}
	n := cloneSwitch(s)
	n.Now++
	n.Table = slices.DeleteFunc(n.Table, func(e impl.Entry) bool { return n.Now-e.At > 20 })
	return n, true
}

// checkTicked holds Ticked of a right switch against the document's words.
func checkTicked(t *testing.T, s impl.Switch) impl.Switch {
	t.Helper()
	n, ok := impl.Ticked(s)
	want, fine := tickedByWords(s)
	if ok != fine || !sameSwitch(n, want) {
		t.Fatalf("Ticked(%+v) = %+v, %v", s, n, ok)
	}
	if ok {
		rightSwitch(t, n)
	}
	return n
}

func TestTickedAges(t *testing.T) {
	s := busySwitch()
	n := checkTicked(t, s)
	if n.Now != 41 || !slices.Equal(n.Table, []impl.Entry{{Mac: 1, Port: 0, At: 40}}) {
		t.Errorf("%d: %v", n.Now, n.Table)
	}
	s = switchOf(buffer())
	s.Table = []impl.Entry{{Mac: 3, Port: 2}}
	for range 20 {
		s = checkTicked(t, s)
		if len(s.Table) != 1 {
			t.Fatalf("%d: gone", s.Now)
		}
	}
	s = checkTicked(t, s)
	if s.Now != 21 || len(s.Table) != 0 {
		t.Errorf("%d: %v", s.Now, s.Table)
	}
}

func TestTickedAtTheEndOfTime(t *testing.T) {
	s := busySwitch()
	s.Now = impl.MaxTime - 1
	s.Table = []impl.Entry{{Mac: 1, At: impl.MaxTime - 21}, {Mac: 2, At: impl.MaxTime - 20}, {Mac: 3, At: impl.MaxTime - 1}}
	n := checkTicked(t, s)
	if n.Now != impl.MaxTime || len(n.Table) != 2 {
		t.Errorf("%d: %v", n.Now, n.Table)
	}
	if m, ok := impl.Ticked(n); ok || !isZeroSwitch(m) {
		t.Errorf("Ticked at the end = %+v, %v", m, ok)
	}
	for _, now := range append([]int64{-1, impl.MaxTime + 1}, endsOfInt64...) {
		wrongSwitch(t, changedSwitch(switchOf(buffer()), func(s *impl.Switch) { s.Now = now }))
	}
}

// body is a text of so many bytes that tells number from all others below 10000.
func body(number int64, size int) string {
	digits := []byte{byte('0' + number/1000%10), byte('0' + number/100%10), byte('0' + number/10%10), byte('0' + number%10)}
	return string(digits) + strings.Repeat("-", size-len(digits))
}
