package tests

import (
	"slices"
	"strings"
	"testing"
	"unsafe"

	"loop.example/g00355/impl"
)

// sharesBytes tells whether two texts have a byte of memory in common.
func sharesBytes(a, b string) bool {
	if a == "" || b == "" {
		return false
	}
	first, other := uintptr(unsafe.Pointer(unsafe.StringData(a))), uintptr(unsafe.Pointer(unsafe.StringData(b)))
	return first < other+uintptr(len(b)) && other < first+uintptr(len(a))
}

// roomyArena is an arena with spare room behind its lists; whole looks at them with that room.
func roomyArena() impl.Arena {
	next := []int64{3, 2, -1, 4, -1, 77, 78}
	data := []string{"", "0123456789", "ab", "", "", "spare", "room"}
	for i, s := range data {
		data[i] = strings.Clone(s)
	}
	return impl.Arena{Next: next[:5], Data: data[:5], Free: 0}
}

func whole(a impl.Arena) impl.Arena {
	return impl.Arena{Next: slices.Clone(a.Next[:cap(a.Next)]), Data: slices.Clone(a.Data[:cap(a.Data)]), Free: a.Free}
}

// spoil writes over all that an answer has, its spare room too.
func spoil(a impl.Arena) {
	for i := range a.Next[:cap(a.Next)] {
		a.Next[:cap(a.Next)][i] = 99
	}
	for i := range a.Data[:cap(a.Data)] {
		a.Data[:cap(a.Data)][i] = "spoilt"
	}
}

func spoilList(l []int64) {
	for i := range l[:cap(l)] {
		l[:cap(l)][i] = 99
	}
}

func TestCellsLeaveArgumentsAlone(t *testing.T) {
	a := roomyArena()
	before := whole(a)
	calls := map[string]func(){
		"ArenaOk": func() { impl.ArenaOk(a) },
		"FreeOf":  func() { spoilList(impl.FreeOf(a)) },
		"ChainOf": func() { l, _ := impl.ChainOf(a, 1); spoilList(l) },
		"Held":    func() { impl.Held(a, 1) },
		"Taken":   func() { b, _, _ := impl.Taken(a, filler(25)); spoil(b) },
		"Given":   func() { b, _ := impl.Given(a, 1); spoil(b) },
		"refused": func() {
			impl.Taken(a, filler(31))
			impl.Given(a, 0)
			impl.ChainOf(a, 2)
		},
	}
	for name, call := range calls {
		for range 2 {
			call()
			if !sameArena(whole(a), before) {
				t.Fatalf("%s left %v of %v", name, whole(a), before)
			}
		}
	}
}

func TestSameArgumentsSameAnswers(t *testing.T) {
	a := roomyArena()
	tight := impl.Arena{Next: slices.Clip(slices.Clone(a.Next)), Data: slices.Clip(slices.Clone(a.Data)), Free: a.Free}
	for range 3 {
		b, head, ok := impl.Taken(a, filler(25))
		c, other, fine := impl.Taken(tight, filler(25))
		if !ok || !fine || head != other || !sameArena(b, c) {
			t.Errorf("Taken: %v, %d and %v, %d", b, head, c, other)
		}
		b, ok = impl.Given(a, 1)
		c, fine = impl.Given(tight, 1)
		if !ok || !fine || !sameArena(b, c) {
			t.Errorf("Given: %v and %v", b, c)
		}
	}
}

func TestTextsOfAnswersAreNew(t *testing.T) {
	a, s := roomyArena(), strings.Clone(filler(25))
	b, _, _ := impl.Taken(a, s)
	c, _ := impl.Given(b, 0)
	held, _ := impl.Held(a, 1)
	answers := slices.Concat(b.Data, c.Data, []string{held})
	if len(answers) != 11 {
		t.Fatal(answers)
	}
	for _, text := range answers {
		for _, argument := range append(slices.Clone(a.Data), s) {
			if sharesBytes(text, argument) {
				t.Errorf("%q lies in the argument %q", text, argument)
			}
		}
	}
	for i := range b.Data {
		if sharesBytes(b.Data[i], c.Data[i]) {
			t.Errorf("Given: cell %d lies in the argument", i)
		}
	}
}

func TestTextsOfFramesAreNew(t *testing.T) {
	f := data(1, 2, 0, strings.Clone("some body"))
	s := impl.FrameText(f)
	g, ok := impl.ReadFrame(s)
	if !ok || sharesBytes(s, f.Body) || sharesBytes(g.Body, s) {
		t.Errorf("%q, %v, %v", s, g, ok)
	}
}

// sharesRoom tells whether two lists have memory in common, their spare room too.
func sharesRoom[T any](a, b []T) bool {
	if cap(a) == 0 || cap(b) == 0 {
		return false
	}
	size := unsafe.Sizeof(*new(T))
	first, other := uintptr(unsafe.Pointer(unsafe.SliceData(a))), uintptr(unsafe.Pointer(unsafe.SliceData(b)))
	return first < other+uintptr(cap(b))*size && other < first+uintptr(cap(a))*size
}

// apart wants no two of these lists to share memory.
func apart[T any](t *testing.T, name string, lists ...[]T) {
	t.Helper()
	for i := range lists {
		for j := range i {
			if sharesRoom(lists[i], lists[j]) {
				t.Errorf("%s: the lists %d and %d share memory", name, j, i)
			}
		}
	}
}

// roomyTable is a table with spare room behind it, full or not.
func roomyTable(n int) []impl.Entry {
	return slices.Concat(tableOf(n), []impl.Entry{{Mac: 77, Port: 78, At: 79}, {Mac: 80}})[:n]
}

func TestTablesLeaveArgumentsAlone(t *testing.T) {
	for n := range impl.MaxTable + 1 {
		l := roomyTable(n)
		before := slices.Clone(l[:n+2])
		for _, mac := range []int64{1, 2, 15, 20, 21} {
			for _, now := range []int64{0, 30, 48, 1000, -1} {
				learned, _ := impl.Learned(l, mac, 3, now)
				aged := impl.Aged(l, now)
				impl.PortOf(l, mac, now)
				impl.TableOk(l)
				apart(t, "tables", l, learned, aged)
				for _, answer := range [][]impl.Entry{learned, aged} {
					for i := range answer[:cap(answer)] {
						answer[:cap(answer)][i] = impl.Entry{Mac: 99}
					}
				}
				if !slices.Equal(l[:n+2], before) {
					t.Fatalf("%d, %d: left %v of %v", mac, now, l[:n+2], before)
				}
			}
		}
	}
}

func TestSameTablesSameAnswers(t *testing.T) {
	roomy, tight := roomyTable(impl.MaxTable), slices.Clip(tableOf(impl.MaxTable))
	first, _ := impl.Learned(tight, 2, 1, 40)
	aged := impl.Aged(tight, 45)
	for range 100 {
		if l, ok := impl.Learned(roomy, 2, 1, 40); !ok || !slices.Equal(l, first) {
			t.Fatalf("Learned: %v and %v", l, first)
		}
		if l := impl.Aged(roomy, 45); len(l) == 0 || !slices.Equal(l, aged) {
			t.Fatalf("Aged: %v and %v", l, aged)
		}
	}
}

// roomyRound lies in one piece of memory, each list with the next one in the spare room behind it.
func roomyRound(turn int64) (impl.Round, []int64, [][]int64) {
	room := []int64{3, 10, 1, 4, 0, 2, 5, 1, 4, 5, 77, 78}
	sizes := [][]int64{room[6:8], room[8:8], room[8:10], {79}, {80}}
	return impl.Round{Quanta: room[:3], Deficit: room[3:6], Turn: turn, Sizes: sizes[:3]}, room, sizes
}

func spoilRound(r impl.Round) {
	for _, l := range append([][]int64{r.Quanta, r.Deficit}, r.Sizes...) {
		spoilList(l)
	}
	for i := range r.Sizes[:cap(r.Sizes)] {
		r.Sizes[:cap(r.Sizes)][i] = []int64{99}
	}
}

func TestRoundsLeaveArgumentsAlone(t *testing.T) {
	for turn := range int64(3) {
		r, room, sizes := roomyRound(turn)
		if !impl.RoundOk(r) {
			t.Fatalf("not right: %v", r)
		}
		before, roomBefore, sizesBefore := cloneRound(r), slices.Clone(room), cloneRound(impl.Round{Sizes: sizes})
		check := func(name string, answer impl.Round, other []int64) {
			t.Helper()
			lists := append([][]int64{room, other, answer.Quanta, answer.Deficit}, answer.Sizes...)
			apart(t, name, lists...)
			apart(t, name, sizes, answer.Sizes)
			spoilRound(answer)
			spoilList(other)
			if !sameRound(r, before) || !slices.Equal(room, roomBefore) || !sameRound(impl.Round{Sizes: sizes}, sizesBefore) {
				t.Fatalf("%s left %v, %v, %v of %v", name, r, room, sizes, before)
			}
		}
		for class := range int64(4) {
			for _, size := range []int64{1, 5, 6} {
				n, _ := impl.Waits(r, class, size)
				check("Waits", n, nil)
			}
		}
		for n := range int64(7) {
			x, l := impl.PickedAll(r, n)
			check("PickedAll", x, l)
		}
		n, _, _ := impl.Picked(r)
		check("Picked", n, nil)
		n, ok := impl.RoundNew(room[:3])
		if !ok {
			t.Error("RoundNew is false")
		}
		check("RoundNew", n, nil)
		impl.RoundNew(room)
		impl.PickedAll(r, 201)
		check("refused", impl.Round{}, nil)
	}
}

func TestPickedOfNothingIsNew(t *testing.T) {
	room := []int64{2, 4, 0, 0, 77}
	r := impl.Round{Quanta: room[:2], Deficit: room[2:4], Turn: 1, Sizes: [][]int64{room[4:4], room[4:4]}}
	n, class, size := impl.Picked(r)
	x, l := impl.PickedAll(r, 5)
	if class != -1 || size != 0 || len(l) != 0 || !sameRound(n, r) || !sameRound(x, r) {
		t.Errorf("%v, %d, %d; %v, %v", n, class, size, x, l)
	}
	for _, answer := range []impl.Round{n, x} {
		apart(t, "nothing waits", append([][]int64{room, answer.Quanta, answer.Deficit}, answer.Sizes...)...)
		apart(t, "nothing waits", r.Sizes, answer.Sizes)
	}
}

func TestSameRoundsSameAnswers(t *testing.T) {
	for turn := range int64(3) {
		r, _, _ := roomyRound(turn)
		tight := cloneRound(r)
		for n := range int64(7) {
			a, l := impl.PickedAll(r, n)
			b, m := impl.PickedAll(tight, n)
			if !sameRound(a, b) || !slices.Equal(l, m) {
				t.Errorf("PickedAll: %v, %v and %v, %v", a, l, b, m)
			}
		}
		a, ok := impl.Waits(r, 1, 2)
		b, fine := impl.Waits(tight, 1, 2)
		if !ok || !fine || !sameRound(a, b) {
			t.Errorf("Waits: %v and %v", a, b)
		}
	}
}

// roomyCounts are counts with spare room behind their lists, and that room.
func roomyCounts() (impl.Counts, []int64, []bool) {
	used := []int64{5, 1, 0, 19, 77, 78}
	paused := []bool{false, true, false, true, true, false}
	return impl.Counts{Used: used[:3], Lossy: 6, Paused: paused[:3]}, used, paused
}

// spoilCounts turns each flag into the other one, so that it is seen wherever it is shared.
func spoilCounts(n impl.Counts) {
	spoilList(n.Used)
	for i := range n.Paused[:cap(n.Paused)] {
		n.Paused[:cap(n.Paused)][i] = !n.Paused[:cap(n.Paused)][i]
	}
}

func TestBuffersLeaveArgumentsAlone(t *testing.T) {
	c := buffer()
	n, used, paused := roomyCounts()
	if !impl.CountsOk(c, n) {
		t.Fatalf("not right: %v", n)
	}
	before, usedBefore, pausedBefore := cloneCounts(n), slices.Clone(used), slices.Clone(paused)
	check := func(name string, answer impl.Counts, told []int64) {
		t.Helper()
		apart(t, name, used, told, answer.Used)
		apart(t, name, paused, answer.Paused)
		spoilCounts(answer)
		spoilList(told)
		if !sameCounts(n, before) || !slices.Equal(used, usedBefore) || !slices.Equal(paused, pausedBefore) {
			t.Fatalf("%s left %v, %v, %v of %v", name, n, used, paused, before)
		}
	}
	for port := int64(-1); port <= 3; port++ {
		for prio := int64(-1); prio <= impl.Lossless+1; prio++ {
			for cells := range int64(impl.MaxCells + 2) {
				m, _ := impl.Admitted(c, n, port, prio, cells)
				check("Admitted", m, nil)
				m, _ = impl.Released(c, n, port, prio, cells)
				check("Released", m, nil)
			}
		}
	}
	m, told := impl.Signals(c, n)
	if !slices.Equal(told, []int64{1, 2}) {
		t.Errorf("told %v", told)
	}
	check("Signals", m, told)
	quiet := impl.Counts{Used: used[:3], Paused: paused[3:6]}
	m, told = impl.Signals(c, quiet)
	check("Signals of other flags", m, told)
	first, _ := impl.CountsNew(c)
	second, _ := impl.CountsNew(c)
	apart(t, "CountsNew", first.Used, second.Used)
	apart(t, "CountsNew", first.Paused, second.Paused)
	impl.Signals(c, impl.Counts{Used: used, Paused: paused})
	impl.CountsOk(c, impl.Counts{Used: used[:2], Paused: paused[:3]})
	check("refused", impl.Counts{}, nil)
}

// TestSignalsOfNothingToldIsNew has flags that are as they must be: even then the answer is no argument.
func TestSignalsOfNothingToldIsNew(t *testing.T) {
	used, paused := []int64{4, 2, 1, 77}, []bool{true, true, false, true}
	n := impl.Counts{Used: used[:3], Paused: paused[:3]}
	m, told := impl.Signals(buffer(), n)
	if !sameCounts(m, n) || len(told) != 0 {
		t.Errorf("%v, %v", m, told)
	}
	apart(t, "nothing told", used, m.Used, told)
	apart(t, "nothing told", paused, m.Paused)
}

func TestSameCountsSameAnswers(t *testing.T) {
	c := buffer()
	roomy, _, _ := roomyCounts()
	tight := impl.Counts{Used: slices.Clip(slices.Clone(roomy.Used)), Lossy: roomy.Lossy, Paused: slices.Clip(slices.Clone(roomy.Paused))}
	for range 3 {
		a, l := impl.Signals(c, roomy)
		b, m := impl.Signals(c, tight)
		if len(l) == 0 || !sameCounts(a, b) || !slices.Equal(l, m) {
			t.Errorf("Signals: %v, %v and %v, %v", a, l, b, m)
		}
		for prio := range int64(impl.Lossless + 1) {
			a, ok := impl.Admitted(c, roomy, 0, prio, 4)
			b, fine := impl.Admitted(c, tight, 0, prio, 4)
			if !ok || !fine || !sameCounts(a, b) {
				t.Errorf("Admitted: %v and %v", a, b)
			}
			a, ok = impl.Released(c, roomy, 0, prio, 4)
			b, fine = impl.Released(c, tight, 0, prio, 4)
			if !ok || !fine || !sameCounts(a, b) {
				t.Errorf("Released: %v and %v", a, b)
			}
		}
	}
}

func roomy[T any](l []T, spare ...T) []T {
	return slices.Concat(l, spare)[:len(l)]
}

func wholeOf[T any](l []T) []T {
	return slices.Clone(l[:cap(l)])
}

func wholeLists(l [][]int64) [][]int64 {
	n := wholeOf(l)
	for i := range n {
		n[i] = wholeOf(n[i])
	}
	return n
}

// roomySwitch is a right switch with spare room behind each of its lists.
func roomySwitch() impl.Switch {
	s := busySwitch()
	for _, l := range listsIn(&s) {
		*l = roomy(*l, 77, 78)
	}
	for i := range s.Lanes {
		l := &s.Lanes[i]
		l.Queues = roomy(l.Queues, []int64{79}, []int64{80})
		l.Round.Sizes = roomy(l.Round.Sizes, []int64{81}, []int64{82})
	}
	for i := range s.Packets {
		s.Packets[i].Frame.Body = strings.Clone(s.Packets[i].Frame.Body)
	}
	s.Table = roomy(s.Table, impl.Entry{Mac: 83, Port: 84, At: 85}, impl.Entry{Mac: 86})
	s.Counts.Paused = roomy(s.Counts.Paused, true, false)
	s.Packets = roomy(s.Packets, impl.Packet{Id: 87}, impl.Packet{Refs: 88})
	s.Lanes = roomy(s.Lanes, impl.Lane{Stop: true, Strict: []int64{89}}, impl.Lane{})
	return s
}

// wholeSwitch looks at all the lists of a switch with the spare room behind them.
func wholeSwitch(s impl.Switch) impl.Switch {
	n := s
	n.Table, n.Packets, n.Lanes = wholeOf(s.Table), wholeOf(s.Packets), wholeOf(s.Lanes)
	n.Counts.Used, n.Counts.Paused = wholeOf(s.Counts.Used), wholeOf(s.Counts.Paused)
	for i, l := range n.Lanes {
		r := &n.Lanes[i].Round
		n.Lanes[i].Strict, n.Lanes[i].Queues = wholeOf(l.Strict), wholeLists(l.Queues)
		r.Quanta, r.Deficit, r.Sizes = wholeOf(r.Quanta), wholeOf(r.Deficit), wholeLists(r.Sizes)
	}
	return n
}

// spoilSwitch writes over all that an answer has, its spare room too.
func spoilSwitch(s impl.Switch) {
	spoilCounts(s.Counts)
	for i := range s.Lanes[:cap(s.Lanes)] {
		l := &s.Lanes[:cap(s.Lanes)][i]
		spoilList(l.Strict)
		spoilRound(impl.Round{Sizes: l.Queues})
		spoilRound(l.Round)
		*l = impl.Lane{Strict: []int64{99}}
	}
	for i := range s.Packets[:cap(s.Packets)] {
		s.Packets[:cap(s.Packets)][i] = impl.Packet{Id: 99}
	}
	for i := range s.Table[:cap(s.Table)] {
		s.Table[:cap(s.Table)][i] = impl.Entry{Mac: 99}
	}
}

// apartSwitches wants no list of these to share memory with another one.
func apartSwitches(t *testing.T, name string, switches ...impl.Switch) {
	t.Helper()
	var numbers [][]int64
	var queues [][][]int64
	var flags [][]bool
	var tables [][]impl.Entry
	var packets [][]impl.Packet
	var lanes [][]impl.Lane
	for _, s := range switches {
		for _, l := range listsIn(&s) {
			numbers = append(numbers, *l)
		}
		for _, l := range s.Lanes {
			queues = append(queues, l.Queues, l.Round.Sizes)
		}
		flags, tables, packets, lanes = append(flags, s.Counts.Paused), append(tables, s.Table), append(packets, s.Packets), append(lanes, s.Lanes)
	}
	apart(t, name, numbers...)
	apart(t, name, queues...)
	apart(t, name, flags...)
	apart(t, name, tables...)
	apart(t, name, packets...)
	apart(t, name, lanes...)
}

// apartTexts wants no body of the answers to lie in one of the arguments, nor in another one of the answers.
func apartTexts(t *testing.T, name string, arguments, answers []string) {
	t.Helper()
	for i, text := range answers {
		for _, other := range slices.Concat(arguments, answers[:i]) {
			if sharesBytes(text, other) {
				t.Errorf("%s: %q lies in %q", name, text, other)
			}
		}
	}
}

func bodiesOf(s impl.Switch, frames ...impl.Frame) []string {
	var bodies []string
	for _, p := range s.Packets {
		bodies = append(bodies, p.Frame.Body)
	}
	for _, f := range frames {
		bodies = append(bodies, f.Body)
	}
	return bodies
}

// switchKeeper has an argument that must stay as it was, and looks at what comes of it.
type switchKeeper struct {
	s, before impl.Switch
}

func (k switchKeeper) check(t *testing.T, name string, answer impl.Switch, in impl.Frame, out []impl.Frame) {
	t.Helper()
	apartSwitches(t, name, k.s, answer)
	apartTexts(t, name, bodiesOf(k.s, in), bodiesOf(answer, out...))
	spoilSwitch(answer)
	for i := range out[:cap(out)] {
		out[:cap(out)][i] = impl.Frame{Body: "spoilt"}
	}
	if !sameSwitch(wholeSwitch(k.s), k.before) {
		t.Fatalf("%s left %+v of %+v", name, wholeSwitch(k.s), k.before)
	}
}

func (k switchKeeper) arrive(t *testing.T) map[int64]int {
	t.Helper()
	codes := map[int64]int{}
	for port := int64(-1); port <= 3; port++ {
		frames := []impl.Frame{pauseFrame, resumeFrame, {Body: strings.Clone("none")}}
		for _, dst := range []int64{1, 2, 3, 7, 20, impl.All} {
			for prio := range int64(impl.Lossless + 1) {
				frames = append(frames, data(dst, 2, prio, strings.Clone("some text")), data(dst, 9, prio, strings.Clone(filler(40))))
			}
		}
		for _, f := range frames {
			n, code := impl.Arrived(k.s, port, f)
			codes[code]++
			k.check(t, "Arrived", n, f, nil)
		}
	}
	return codes
}

func (k switchKeeper) send(t *testing.T) int {
	t.Helper()
	count := 0
	for port := int64(-1); port <= 3; port++ {
		n, out, _ := impl.Sent(k.s, port)
		count += len(out)
		k.check(t, "Sent", n, impl.Frame{}, out)
	}
	n, _ := impl.Ticked(k.s)
	k.check(t, "Ticked", n, impl.Frame{}, nil)
	impl.SwitchOk(k.s)
	k.check(t, "SwitchOk", impl.Switch{}, impl.Frame{}, nil)
	return count
}

func TestSwitchesLeaveArgumentsAlone(t *testing.T) {
	codes, sent := map[int64]int{}, 0
	for _, change := range []func(*impl.Switch){
		func(s *impl.Switch) {},
		func(s *impl.Switch) { s.Next = impl.MaxTime },
		func(s *impl.Switch) { s.Lanes[1].Stop, s.Lanes[2].Stop = false, true },
		func(s *impl.Switch) { s.Counts.Paused[0], s.Config.Xon, s.Config.Xoff = true, 6, 7 },
		func(s *impl.Switch) { s.Packets[0].Refs++ },
		func(s *impl.Switch) { s.Lanes[2].Strict = s.Lanes[2].Strict[:1] },
		func(s *impl.Switch) { s.Lanes = s.Lanes[:4] },
	} {
		s := roomySwitch()
		change(&s)
		k := switchKeeper{s: s, before: wholeSwitch(s)}
		for code, count := range k.arrive(t) {
			codes[code] += count
		}
		sent += k.send(t)
	}
	if len(codes) != 5 || sent < 12 {
		t.Errorf("codes %v, %d sent", codes, sent)
	}
}

// TestSwitchesInOnePiece has lists that lie in one another's memory: those of the answers lie apart all the same.
func TestSwitchesInOnePiece(t *testing.T) {
	s := switchOf(buffer(), held{3, 0, data(impl.All, 1, 0, strings.Clone("a")), []int64{1, 2}}, held{4, 0, data(impl.All, 1, 0, strings.Clone("b")), []int64{0, 1, 2}})
	s.Lanes[1] = s.Lanes[2]
	rightSwitch(t, s)
	k := switchKeeper{s: s, before: wholeSwitch(s)}
	for port := range int64(3) {
		n, code := impl.Arrived(s, port, data(impl.All, 5, 0, "c"))
		m, out, ok := impl.Sent(s, port)
		ticked, fine := impl.Ticked(s)
		if code != impl.SwDone || !ok || len(out) != 1 || !fine {
			t.Errorf("%d, %v, %v, %v", code, out, ok, fine)
		}
		apartSwitches(t, "one piece", n, m, ticked)
		for _, answer := range []impl.Switch{n, m, ticked} {
			spoilSwitch(answer)
		}
		if !sameSwitch(wholeSwitch(s), k.before) {
			t.Fatalf("left %+v of %+v", s, k.before)
		}
	}
}

func TestSwitchNewIsNew(t *testing.T) {
	a, _ := impl.SwitchNew(buffer())
	b, _ := impl.SwitchNew(buffer())
	apartSwitches(t, "SwitchNew", a, b)
	spoilSwitch(a)
	if !sameSwitch(b, switchOf(buffer())) {
		t.Errorf("%+v", b)
	}
}

func TestSameSwitchesSameAnswers(t *testing.T) {
	spacious, tight := roomySwitch(), busySwitch()
	for range 3 {
		for port := range int64(3) {
			for _, f := range []impl.Frame{pauseFrame, data(2, 7, 1, "x"), data(impl.All, 9, impl.Lossless, "y")} {
				a, code := impl.Arrived(spacious, port, f)
				b, other := impl.Arrived(tight, port, f)
				if code != other || !sameSwitch(a, b) {
					t.Errorf("Arrived: %+v, %d and %+v, %d", a, code, b, other)
				}
			}
			a, l, ok := impl.Sent(spacious, port)
			b, m, fine := impl.Sent(tight, port)
			if !ok || !fine || !slices.Equal(l, m) || !sameSwitch(a, b) {
				t.Errorf("Sent: %+v, %v and %+v, %v", a, l, b, m)
			}
		}
		a, ok := impl.Ticked(spacious)
		b, fine := impl.Ticked(tight)
		if !ok || !fine || !sameSwitch(a, b) {
			t.Errorf("Ticked: %+v and %+v", a, b)
		}
	}
}
