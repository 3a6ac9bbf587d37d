package tests

import (
	"math"
	"slices"
	"testing"

	"loop.example/g00355/impl"
)

// arrivedByWords goes by the document's words, one after the other; it is of right switches.
func arrivedByWords(s impl.Switch, port int64, f impl.Frame) (impl.Switch, int64) {
	n := cloneSwitch(s)
	if port < 0 || port >= n.Config.Ports || !impl.FrameOk(f) {
		return n, 2
	}
	if f.Kind != impl.FrData {
		n.Lanes[port].Stop = f.Kind == impl.FrPause
		return n, 0
	}
	n.Table, _ = impl.Learned(n.Table, f.Src, port, n.Now)
	to := impl.PortOf(n.Table, f.Dst, n.Now)
	if to == port {
		return n, 4
	}
	if !rightCountsByWords(n.Config, movedByWords(n.Counts, port, f.Prio, cellsByWords(f))) || n.Next == 1000000000 {
		if f.Prio == 2 {
			n.Lost = min(n.Lost+1, 1000000000)
		} else {
			n.Drops = min(n.Drops+1, 1000000000)
		}
		return n, 3
	}
	at := []int64{to}
	if to == -1 {
		at = slices.DeleteFunc([]int64{0, 1, 2, 3}[:n.Config.Ports], func(other int64) bool { return other == port })
	}
	hold(&n, held{n.Next, port, f, at})
	return n, 0
}

// sentByWords goes by the document's words, one after the other; it is of right switches and their ports.
func sentByWords(s impl.Switch, port int64) (impl.Switch, []impl.Frame) {
	n := cloneSwitch(s)
	var out []impl.Frame
	if signalled, _ := signalsByWords(n.Config, n.Counts); signalled.Paused[port] != n.Counts.Paused[port] {
		n.Counts.Paused[port] = signalled.Paused[port]
		if n.Counts.Paused[port] {
			out = append(out, pauseFrame)
		} else {
			out = append(out, resumeFrame)
		}
	}
	l := &n.Lanes[port]
	from := &l.Strict
	if len(l.Strict) == 0 || l.Stop {
		var class int64
		l.Round, class, _ = pickedByWords(l.Round)
		if class == -1 {
			return n, out
		}
		from = &l.Queues[class]
	}
	id := (*from)[0]
	*from = (*from)[1:]
	at := slices.IndexFunc(n.Packets, func(p impl.Packet) bool { return p.Id == id })
	out = append(out, n.Packets[at].Frame)
	n.Packets[at].Refs--
	if p := n.Packets[at]; p.Refs == 0 {
		n.Packets = slices.Delete(n.Packets, at, at+1)
		n.Counts = movedByWords(n.Counts, p.In, p.Frame.Prio, -cellsByWords(p.Frame))
	}
	return n, out
}

// checkArrived holds Arrived of a right switch against the document's words, and answers what it answered.
func checkArrived(t *testing.T, s impl.Switch, port int64, f impl.Frame) (impl.Switch, int64) {
	t.Helper()
	n, code := impl.Arrived(s, port, f)
	want, wantCode := arrivedByWords(s, port, f)
	if code != wantCode || !sameSwitch(n, want) {
		t.Fatalf("Arrived(%+v, %d, %v) = %+v, %d", s, port, f, n, code)
	}
	rightSwitch(t, n)
	return n, code
}

// checkSent holds Sent of a right switch against the document's words, and answers what it answered.
func checkSent(t *testing.T, s impl.Switch, port int64) (impl.Switch, []impl.Frame) {
	t.Helper()
	n, out, ok := impl.Sent(s, port)
	want, wantOut := sentByWords(s, port)
	if !ok || !sameSwitch(n, want) || !slices.Equal(out, wantOut) {
		t.Fatalf("Sent(%+v, %d) = %+v, %v, %v", s, port, n, out, ok)
	}
	rightSwitch(t, n)
	return n, out
}

func arrive(t *testing.T, s impl.Switch, port int64, f impl.Frame, code int64) impl.Switch {
	t.Helper()
	n, got := checkArrived(t, s, port, f)
	if got != code {
		t.Fatalf("Arrived(%+v, %d, %v): %d, want %d", s, port, f, got, code)
	}
	return n
}

func send(t *testing.T, s impl.Switch, port int64, frames ...impl.Frame) impl.Switch {
	t.Helper()
	n, out := checkSent(t, s, port)
	if !slices.Equal(out, frames) {
		t.Fatalf("Sent(%+v, %d): %v, want %v", s, port, out, frames)
	}
	return n
}

// waitsAt are the ports in whose lanes an Id stands, in the list of that Prio.
func waitsAt(s impl.Switch, id, prio int64) []int64 {
	var at []int64
	for port, l := range s.Lanes {
		list := l.Strict
		if prio < impl.Lossless {
			list = l.Queues[prio]
		}
		if slices.Contains(list, id) {
			at = append(at, int64(port))
		}
	}
	return at
}

// portsBut are the ports below count without that one.
func portsBut(count, port int64) []int64 {
	var l []int64
	for other := range count {
		if other != port {
			l = append(l, other)
		}
	}
	return l
}

// TestArrivedWaitsWhereItIsFor has a Dst that is known at each port, at none, too long ago, and All.
func TestArrivedWaitsWhereItIsFor(t *testing.T) {
	for ports := int64(2); ports <= impl.MaxPorts; ports++ {
		for port := range ports {
			for prio := range int64(impl.Lossless + 1) {
				for known := int64(-1); known < ports; known++ {
					for age := int64(0); age <= 22; age++ {
						checkWhere(t, ports, port, prio, known, age)
					}
				}
			}
		}
	}
}

// checkWhere lets a frame for the address 9 arrive, which was seen at the port known, so long ago; nowhere when that is -1.
func checkWhere(t *testing.T, ports, port, prio, known, age int64) {
	t.Helper()
	s := switchOf(configWith(configWith(buffer(), "Ports", ports), "Cells", 200))
	s.Now, s.Next = 100, 5
	if known >= 0 {
		s.Table = []impl.Entry{{Mac: 9, Port: known, At: 100 - age}}
	}
	f := data(9, 3, prio, "some text")
	want := portsBut(ports, port)
	if known >= 0 && age <= impl.MaxAge {
		want = []int64{known}
	}
	if slices.Contains(want, port) {
		n := arrive(t, s, port, f, impl.SwLoop)
		if len(n.Packets) != 0 || n.Next != 5 || impl.PortOf(n.Table, 3, 100) != port {
			t.Errorf("at %d: %+v", port, n)
		}
		return
	}
	n := arrive(t, s, port, f, impl.SwDone)
	packet := impl.Packet{Id: 5, In: port, Refs: int64(len(want)), Frame: f}
	if !slices.Equal(n.Packets, []impl.Packet{packet}) || n.Next != 6 || impl.PortOf(n.Table, 3, 100) != port {
		t.Errorf("at %d: %+v", port, n)
	}
	if lanesWith(n, 5) != packet.Refs || !slices.Equal(waitsAt(n, 5, prio), want) {
		t.Errorf("for %d, known at %d, at %d: waits in %+v", port, known, age, n.Lanes)
	}
	flooded := arrive(t, s, port, data(impl.All, 3, prio, "some text"), impl.SwDone)
	if !slices.Equal(waitsAt(flooded, 5, prio), portsBut(ports, port)) || lanesWith(flooded, 5) != ports-1 {
		t.Errorf("All of %d: %+v", port, flooded.Lanes)
	}
}

// TestArrivedWaitsBehindAllOthers looks at the end of each list in which something waits already.
func TestArrivedWaitsBehindAllOthers(t *testing.T) {
	for prio := range int64(impl.Lossless + 1) {
		for port := range int64(3) {
			s := busySwitch()
			n := arrive(t, s, port, data(impl.All, 8, prio, filler(21)), impl.SwDone)
			for at, l := range n.Lanes {
				lists, before := append(l.Queues, l.Strict), append(slices.Clone(s.Lanes[at].Queues), s.Lanes[at].Strict)
				for of := range lists {
					want := slices.Clone(before[of])
					if int64(at) != port && int64(of) == prio {
						want = append(want, 13)
					}
					if !slices.Equal(lists[of], want) {
						t.Errorf("%d at %d: lane %d has %v", prio, port, at, lists)
					}
				}
			}
			if len(n.Packets) != 9 || n.Packets[8] != (impl.Packet{Id: 13, In: port, Refs: 2, Frame: data(impl.All, 8, prio, filler(21))}) || n.Next != 14 {
				t.Errorf("%+v", n.Packets)
			}
		}
	}
}

func TestArrivedOfEachSize(t *testing.T) {
	for prio := range int64(impl.Lossless + 1) {
		for size := range impl.MaxBody + 1 {
			n := arrive(t, switchOf(buffer()), 1, data(impl.All, 20, prio, filler(size)), impl.SwDone)
			used, lossy := int64(size+18)/10, int64(0)
			if prio < impl.Lossless {
				used, lossy = 0, used
				if sizes := n.Lanes[2].Round.Sizes; !slices.Equal(sizes[prio], []int64{lossy}) || len(sizes[1-prio]) != 0 {
					t.Errorf("%d bytes: sizes %v", size, sizes)
				}
			}
			if !slices.Equal(n.Counts.Used, []int64{0, used, 0}) || n.Counts.Lossy != lossy {
				t.Errorf("%d bytes of %d: %v", size, prio, n.Counts)
			}
		}
	}
}

func TestArrivedPauseAndResume(t *testing.T) {
	for port := range int64(3) {
		for _, stop := range []bool{false, true} {
			for _, f := range []impl.Frame{pauseFrame, resumeFrame} {
				s := busySwitch()
				s.Lanes[port].Stop = stop
				n := arrive(t, s, port, f, impl.SwDone)
				s.Lanes[port].Stop = f == pauseFrame
				if !sameSwitch(n, s) {
					t.Errorf("%v at %d: %+v", f, port, n)
				}
			}
		}
	}
	s := busySwitch()
	s.Next, s.Now, s.Drops, s.Lost = impl.MaxTime, impl.MaxTime, impl.MaxTime, impl.MaxTime
	arrive(t, s, 0, pauseFrame, impl.SwDone)
	arrive(t, s, 1, resumeFrame, impl.SwDone)
}

// TestArrivedForm has ports that are none and frames that are not right, each alone and both together: nothing is learned or counted.
func TestArrivedForm(t *testing.T) {
	wrong := wrongFrames()
	ports := append([]int64{-1, 3, 4, 255}, endsOfInt64...)
	for _, s := range []impl.Switch{busySwitch(), switchOf(buffer()), fullSwitch(500, 0)} {
		form := func(port int64, f impl.Frame) {
			t.Helper()
			if n := arrive(t, s, port, f, impl.SwForm); !sameSwitch(n, s) {
				t.Errorf("Arrived(.., %d, %v) = %+v", port, f, n)
			}
		}
		for _, port := range ports {
			for _, f := range []impl.Frame{data(1, 2, 0, ""), data(2, 2, impl.Lossless, ""), data(impl.All, 8, 1, "x"), pauseFrame, resumeFrame, {}} {
				form(port, f)
			}
		}
		for _, f := range wrong[:len(wrong)/len(s.Lanes)] {
			form(0, f)
		}
	}
	for _, f := range wrong {
		s := busySwitch()
		if n, code := impl.Arrived(s, 1, f); code != impl.SwForm || !sameSwitch(n, s) {
			t.Errorf("Arrived(.., 1, %v) = %d, %+v", f, code, n)
		}
	}
	for ports := int64(2); ports < impl.MaxPorts; ports++ {
		s := switchOf(configWith(configWith(buffer(), "Ports", ports), "Cells", 200))
		arrive(t, s, ports-1, pauseFrame, impl.SwDone)
		arrive(t, s, ports, pauseFrame, impl.SwForm)
	}
}

// TestArrivedWrongAheadOfAll has a switch that is not right together with all else that could be refused.
func TestArrivedWrongAheadOfAll(t *testing.T) {
	s := fullSwitch(500, 0)
	s.Next, s.Drops, s.Lost, s.Lanes[0].Stop = impl.MaxTime, impl.MaxTime, impl.MaxTime, true
	rightSwitch(t, s)
	s.Counts.Lossy--
	wrongSwitch(t, s)
	for _, port := range []int64{0, 1, 2, -1} {
		for _, f := range []impl.Frame{pauseFrame, resumeFrame, data(1, 1, 0, ""), data(2, 1, impl.Lossless, ""), data(0, 1, 0, ""), {}} {
			if n, code := impl.Arrived(s, port, f); code != impl.SwWrong || !isZeroSwitch(n) {
				t.Errorf("Arrived(.., %d, %v) = %+v, %d", port, f, n, code)
			}
		}
	}
}

// TestArrivedLoopAheadOfDrop has a switch without room and without an Id: what goes nowhere is not counted.
func TestArrivedLoopAheadOfDrop(t *testing.T) {
	for _, next := range []int64{1001, impl.MaxTime} {
		s := fullSwitch(500, 0)
		s.Next = next
		for prio := range int64(impl.Lossless + 1) {
			n := arrive(t, s, 1, data(7, 7, prio, ""), impl.SwLoop)
			if n.Drops != 0 || n.Lost != 0 || n.Next != next || !slices.Equal(n.Table, []impl.Entry{{Mac: 7, Port: 1}}) {
				t.Errorf("%d, %d, %d: %v", n.Drops, n.Lost, n.Next, n.Table)
			}
		}
	}
}

// TestArrivedDropIsCounted wants one of Drops and Lost to be one more, and what was learned to stay.
func TestArrivedDropIsCounted(t *testing.T) {
	for _, counted := range []int64{0, 5, impl.MaxTime - 1, impl.MaxTime} {
		for prio := range int64(impl.Lossless + 1) {
			for _, next := range []int64{1001, impl.MaxTime} {
				s := fullSwitch(500, 0)
				s.Drops, s.Lost, s.Next = counted, counted, next
				n := arrive(t, s, 1, data(8, 7, prio, ""), impl.SwDrop)
				if prio == impl.Lossless {
					s.Lost = min(counted+1, impl.MaxTime)
				} else {
					s.Drops = min(counted+1, impl.MaxTime)
				}
				s.Table = []impl.Entry{{Mac: 7, Port: 1}}
				if !sameSwitch(n, s) {
					t.Errorf("%d of %d: %d, %d, %v", prio, counted, n.Drops, n.Lost, n.Table)
				}
			}
		}
	}
}

// TestArrivedAtTheLastId has room for all, but no Id behind the last one.
func TestArrivedAtTheLastId(t *testing.T) {
	for prio := range int64(impl.Lossless + 1) {
		s := switchOf(buffer())
		s.Next = impl.MaxTime - 1
		s = arrive(t, s, 0, data(impl.All, 1, prio, "x"), impl.SwDone)
		if s.Next != impl.MaxTime || s.Packets[0].Id != impl.MaxTime-1 {
			t.Errorf("%d: %v", s.Next, s.Packets)
		}
		for other := range int64(impl.Lossless + 1) {
			n := arrive(t, s, 1, data(2, 2, other, "x"), impl.SwLoop)
			if n.Drops+n.Lost != 0 {
				t.Error("counted")
			}
			n = arrive(t, s, 1, data(3, 2, other, "x"), impl.SwDrop)
			if n.Lost != other/impl.Lossless || n.Drops != 1-n.Lost || n.Next != impl.MaxTime || len(n.Packets) != 1 {
				t.Errorf("%d, %d, %d: %v", n.Drops, n.Lost, n.Next, n.Packets)
			}
		}
	}
}

// TestArrivedToTheLastCell fills each share to the last cell; others have room then, as before.
func TestArrivedToTheLastCell(t *testing.T) {
	c := buffer()
	for size, cells := range map[int]int64{0: 1, 5: 2, 15: 3, 25: 4, 35: 5} {
		for prio, most := range []int64{c.Lossy, c.Lossy, c.Xoff + c.Head} {
			prio := int64(prio)
			s := switchOf(c)
			for range most / cells {
				s = arrive(t, s, 1, data(impl.All, 1, prio, filler(size)), impl.SwDone)
			}
			for range most % cells {
				s = arrive(t, s, 1, data(impl.All, 1, prio, ""), impl.SwDone)
			}
			arrive(t, s, 1, data(impl.All, 1, prio, ""), impl.SwDrop)
			if prio == impl.Lossless {
				arrive(t, s, 0, data(impl.All, 1, prio, filler(40)), impl.SwDone)
				arrive(t, s, 1, data(impl.All, 1, 0, filler(40)), impl.SwDone)
				arrive(t, s, 1, data(impl.All, 1, 1, filler(40)), impl.SwDone)
				continue
			}
			arrive(t, s, 0, data(impl.All, 1, 1-prio, ""), impl.SwDrop)
			arrive(t, s, 1, data(impl.All, 1, impl.Lossless, filler(40)), impl.SwDone)
		}
	}
	none := switchOf(configWith(c, "Lossy", 0))
	arrive(t, none, 0, data(impl.All, 1, 0, ""), impl.SwDrop)
	arrive(t, none, 0, data(impl.All, 1, 1, ""), impl.SwDrop)
	arrive(t, none, 0, data(impl.All, 1, impl.Lossless, ""), impl.SwDone)
}

// TestArrivedLearnsFirst has addresses that move, and are gone from a full table, with the very frame that asks for them.
func TestArrivedLearnsFirst(t *testing.T) {
	s := switchOf(buffer())
	s.Now, s.Table = 30, []impl.Entry{{Mac: 4, Port: 2, At: 29}}
	n := arrive(t, s, 0, data(4, 4, 0, ""), impl.SwLoop)
	if !slices.Equal(n.Table, []impl.Entry{{Mac: 4, Port: 0, At: 30}}) {
		t.Errorf("moved: %v", n.Table)
	}
	s = switchOf(configWith(configWith(buffer(), "Ports", 4), "Cells", 200))
	s.Now, s.Table = 35, tableOf(8)
	oldest := s.Table[7]
	n = arrive(t, s, 0, data(oldest.Mac, 2, 1, ""), impl.SwDone)
	if !slices.Equal(waitsAt(n, 1, 1), []int64{1, 2, 3}) || len(n.Table) != 8 || impl.PortOf(n.Table, oldest.Mac, 35) != -1 {
		t.Errorf("waits at %v, %v", waitsAt(n, 1, 1), n.Table)
	}
	n = arrive(t, s, 0, data(oldest.Mac, 3, 1, ""), impl.SwDone)
	if !slices.Equal(waitsAt(n, 1, 1), []int64{3}) || len(n.Table) != 8 {
		t.Errorf("waits at %v, %v", waitsAt(n, 1, 1), n.Table)
	}
	n = arrive(t, s, oldest.Port, data(oldest.Mac, 2, 1, ""), impl.SwDone)
	if !slices.Equal(waitsAt(n, 1, 1), []int64{0, 1, 2}) {
		t.Errorf("waits at %v", waitsAt(n, 1, 1))
	}
	arrive(t, s, oldest.Port, data(oldest.Mac, 3, 1, ""), impl.SwLoop)
}

func TestSentRefuses(t *testing.T) {
	for _, s := range []impl.Switch{busySwitch(), switchOf(buffer())} {
		for _, port := range append([]int64{-1, 3, 4}, endsOfInt64...) {
			if n, l, ok := impl.Sent(s, port); ok || len(l) != 0 || !isZeroSwitch(n) {
				t.Errorf("Sent(.., %d) = %+v, %v, %v", port, n, l, ok)
			}
		}
	}
	for ports := int64(2); ports < impl.MaxPorts; ports++ {
		s := switchOf(configWith(configWith(buffer(), "Ports", ports), "Cells", 200))
		send(t, s, ports-1)
		if _, _, ok := impl.Sent(s, ports); ok {
			t.Errorf("port %d of %d", ports, ports)
		}
	}
}

// TestSentOfNothing leaves a switch in which nothing waits as it was.
func TestSentOfNothing(t *testing.T) {
	s := switchOf(buffer())
	s.Lanes[1].Stop, s.Lanes[2].Round.Turn = true, 1
	for port := range int64(3) {
		if n := send(t, s, port); !sameSwitch(n, s) {
			t.Errorf("Sent(%+v, %d) = %+v", s, port, n)
		}
	}
}

// TestSentWithStop has each of Strict and the two queues empty or not, with Stop and without.
func TestSentWithStop(t *testing.T) {
	frames := []impl.Frame{data(impl.All, 1, 0, "first"), data(impl.All, 1, 1, "second"), data(impl.All, 1, impl.Lossless, "strict")}
	for _, stop := range []bool{false, true} {
		for set := range 8 {
			s := switchOf(buffer())
			for prio, f := range frames {
				if set>>prio&1 == 1 {
					hold(&s, held{s.Next, 0, f, []int64{1, 2}})
				}
			}
			s.Lanes[1].Stop = stop
			var want []impl.Frame
			switch {
			case set&4 > 0 && !stop:
				want = frames[2:]
			case set&1 > 0:
				want = frames[:1]
			case set&2 > 0:
				want = frames[1:2]
			}
			n := send(t, s, 1, want...)
			if len(n.Packets) != len(s.Packets) || !sameCounts(n.Counts, s.Counts) || !sameLane(n.Lanes[2], s.Lanes[2]) {
				t.Errorf("%d with %v: %+v", set, stop, n)
			}
			if set == 4 && stop && !sameSwitch(n, s) {
				t.Errorf("%+v of %+v", n, s)
			}
		}
	}
}

// TestSentStrictAheadOfQueues sends all that waits at one port, and all that is lossless ahead of the others.
func TestSentStrictAheadOfQueues(t *testing.T) {
	s := switchOf(buffer())
	var strict []impl.Frame
	for number := range int64(6) {
		prio := []int64{0, impl.Lossless, 1}[number%3]
		f := data(impl.All, 1, prio, body(number, 4))
		hold(&s, held{s.Next, 0, f, []int64{2}})
		if prio == impl.Lossless {
			strict = append(strict, f)
		}
	}
	for _, f := range strict {
		s = send(t, s, 2, f)
	}
	// Of two cells each: one by the first quantum, two by the second.
	for _, number := range []int64{0, 2, 5, 3} {
		s = send(t, s, 2, data(impl.All, 1, number%3/2, body(number, 4)))
	}
	if n := send(t, s, 2); len(n.Packets) != 0 || n.Counts.Lossy != 0 || n.Counts.Used[0] != 0 || !sameSwitch(n, s) {
		t.Errorf("%+v", n)
	}
}

// TestSentByQuanta has two queues that wait in full: by 2 and 4 cells in turns.
func TestSentByQuanta(t *testing.T) {
	s := switchOf(impl.Config{Ports: 2, Cells: 200, Xoff: 4, Xon: 1, Head: 15, Lossy: 100, Delay: 1})
	for range 12 {
		hold(&s, held{s.Next, 0, data(5, 1, 0, "f"), []int64{1}})
		hold(&s, held{s.Next, 0, data(5, 1, 1, filler(12)), []int64{1}})
	}
	var got []int64
	for range 10 {
		n, out := checkSent(t, s, 1)
		if len(out) != 1 {
			t.Fatalf("sent %v", out)
		}
		got = append(got, out[0].Prio)
		s = n
	}
	// The second class has 4 cells at its turn, and 3 a frame: one, one, one, then two of what is left over.
	if !slices.Equal(got, []int64{0, 0, 1, 0, 0, 1, 0, 0, 1, 1}) {
		t.Errorf("sent %v", got)
	}
}

// TestSentFreesWithTheLastOne has a packet that waits in several lanes, sent in each order.
func TestSentFreesWithTheLastOne(t *testing.T) {
	for prio := range int64(impl.Lossless + 1) {
		f := data(impl.All, 1, prio, filler(33))
		for _, order := range [][]int64{{0, 1, 2}, {0, 2, 1}, {1, 0, 2}, {1, 2, 0}, {2, 0, 1}, {2, 1, 0}} {
			s := switchOf(configWith(configWith(buffer(), "Xoff", 9), "Cells", 200), held{4, 1, data(1, 2, prio, "ahead"), []int64{0}}, held{6, 1, f, []int64{0, 1, 2}}, held{9, 1, data(1, 2, prio, ""), []int64{1}})
			s = send(t, s, 0, data(1, 2, prio, "ahead"))
			for i, port := range order {
				if s.Packets[0].Refs != 3-int64(i) || s.Counts.Lossy+s.Counts.Used[1] != 6 {
					t.Fatalf("%d ahead of %d: %+v", prio, port, s)
				}
				s = send(t, s, port, f)
				if slices.Contains(waitsAt(s, 6, prio), port) {
					t.Fatalf("%d waits at %d again", prio, port)
				}
			}
			if len(s.Packets) != 1 || s.Packets[0].Id != 9 || s.Counts.Lossy+s.Counts.Used[1] != 1 {
				t.Errorf("%d: %+v", prio, s)
			}
		}
	}
}

// TestSentTells has a port's flag that is to be another one, or is not, with and without something that waits.
func TestSentTells(t *testing.T) {
	c := buffer()
	for cells := int64(0); cells <= 8; cells++ {
		for _, paused := range []bool{false, true} {
			for at := range int64(3) {
				s := switchOf(c)
				for range cells {
					hold(&s, held{s.Next, 0, data(impl.All, 1, impl.Lossless, ""), []int64{at}})
				}
				s.Counts.Paused[0] = paused
				var want []impl.Frame
				then := paused
				if !paused && cells >= c.Xoff {
					want, then = append(want, pauseFrame), true
				}
				if paused && cells <= c.Xon {
					want, then = append(want, resumeFrame), false
				}
				if at == 0 && cells > 0 {
					want = append(want, data(impl.All, 1, impl.Lossless, ""))
				}
				n := send(t, s, 0, want...)
				if n.Counts.Paused[0] != then || n.Counts.Paused[1] || n.Counts.Paused[2] {
					t.Errorf("%d cells, %v: %v", cells, paused, n.Counts)
				}
			}
		}
	}
}

// TestSentTellsOfItsPortAlone has flags of all ports that are to be others.
func TestSentTellsOfItsPortAlone(t *testing.T) {
	c := buffer()
	for port := range int64(3) {
		s := switchOf(c)
		for in := range int64(2) {
			hold(&s, held{s.Next, in, data(impl.All, 1, impl.Lossless, filler(40)), []int64{2}})
		}
		s.Counts.Paused[2] = true
		want := []impl.Frame{pauseFrame}
		if port == 2 {
			want = []impl.Frame{resumeFrame, data(impl.All, 1, impl.Lossless, filler(40))}
		}
		n := send(t, s, port, want...)
		flags := slices.Clone(s.Counts.Paused)
		flags[port] = !flags[port]
		if !slices.Equal(n.Counts.Paused, flags) {
			t.Errorf("port %d: %v", port, n.Counts)
		}
		if n, out := checkSent(t, n, port); slices.Contains(out, want[0]) || !slices.Equal(n.Counts.Paused, flags) {
			t.Errorf("port %d was told twice: %v", port, out)
		}
	}
}

// TestSentTellsAheadOfSending looks at what is used before the frame of the same call is gone.
func TestSentTellsAheadOfSending(t *testing.T) {
	c := buffer()
	f := data(impl.All, 1, impl.Lossless, filler(30))
	s := switchOf(c, held{1, 0, f, []int64{0}})
	s = send(t, s, 0, pauseFrame, f)
	if s.Counts.Used[0] != 0 || !s.Counts.Paused[0] || len(s.Packets) != 0 {
		t.Errorf("%+v", s)
	}
	s = send(t, s, 0, resumeFrame)
	send(t, s, 0)
}

// TestSentTellsWithStop wants Stop to hold back neither what is told nor the queues.
func TestSentTellsWithStop(t *testing.T) {
	f := data(impl.All, 1, impl.Lossless, filler(40))
	s := switchOf(buffer(), held{1, 0, f, []int64{0}}, held{2, 0, data(impl.All, 1, 1, "q"), []int64{0}})
	s.Lanes[0].Stop = true
	s = send(t, s, 0, pauseFrame, data(impl.All, 1, 1, "q"))
	s = send(t, s, 0)
	s = arrive(t, s, 0, resumeFrame, impl.SwDone)
	s = send(t, s, 0, f)
	send(t, s, 0, resumeFrame)
}

func TestSentOfTheBusySwitch(t *testing.T) {
	s := busySwitch()
	for range 12 {
		for port := range int64(3) {
			s, _ = checkSent(t, s, port)
		}
	}
	if len(s.Packets) != 3 || s.Packets[0].Refs != 1 || s.Packets[1].Refs != 1 || !slices.Equal(s.Lanes[1].Strict, []int64{2, 6, 10}) {
		t.Errorf("what Stop holds back: %+v", s.Packets)
	}
	s = arrive(t, s, 1, resumeFrame, impl.SwDone)
	for range 3 {
		s, _ = checkSent(t, s, 1)
	}
	if len(s.Packets) != 0 || s.Counts.Lossy != 0 || !slices.Equal(s.Counts.Used, []int64{0, 0, 0}) {
		t.Errorf("%+v", s)
	}
}

func TestSentOfTheFullSwitch(t *testing.T) {
	for _, lossless := range []int64{32, 1000} {
		s := fullSwitch(lossless, 0, 1)
		sent := 0
		for range 1000 {
			for port := range int64(2) {
				n, l, ok := impl.Sent(s, port)
				if !ok {
					t.Fatalf("not right: %+v", s)
				}
				sent += len(slices.DeleteFunc(l, func(f impl.Frame) bool { return f.Kind != impl.FrData }))
				s = n
			}
		}
		if sent != 2000 || len(s.Packets) != 0 || s.Counts.Lossy != 0 || s.Counts.Used[0]+s.Counts.Used[1] != 0 {
			t.Errorf("%d are sent, %+v is left", sent, s)
		}
	}
}

// due keeps what must still be sent: of each port, by Prio, in order.
type due [impl.MaxPorts][impl.Lossless + 1][]impl.Frame

func (d *due) add(f impl.Frame, ports []int64) {
	for _, port := range ports {
		d[port][f.Prio] = append(d[port][f.Prio], f)
	}
}

// check wants a frame to be the first that is due of its port and Prio, and takes it away.
func (d *due) check(t *testing.T, port int64, f impl.Frame) {
	t.Helper()
	list := &d[port][f.Prio]
	if len(*list) == 0 || (*list)[0] != f {
		t.Fatalf("%v is sent at %d, due is %v", f, port, *list)
	}
	*list = (*list)[1:]
}

func (d *due) count(port int64) int {
	return len(slices.Concat(d[port][:]...))
}

// TestManyArriveAndAreSent goes on from a new switch: each frame is sent once at each port it is for, and at no other one.
func TestManyArriveAndAreSent(t *testing.T) {
	codes := map[int64]int{}
	for seed := range uint32(12) {
		next := numbers(seed)
		ports := int64(seed%3) + 2
		s, _ := impl.SwitchNew(impl.Config{Ports: ports, Cells: ports*(9+15) + 30, Xoff: 9, Xon: 3, Head: 15, Lossy: 30, Delay: 1})
		var d due
		for step := range int64(900) {
			port := next(ports)
			switch next(9) {
			case 0, 1, 2, 3:
				s = arriveAny(t, s, port, data(next(6)+1, next(8)+1, next(3), body(step, 4+int(next(37)))), &d, codes)
			case 4:
				s = arriveAny(t, s, port, data(impl.All, next(8)+1, next(3), body(step, 4)), &d, codes)
			case 5:
				s = arriveAny(t, s, port, []impl.Frame{pauseFrame, resumeFrame, resumeFrame}[next(3)], &d, codes)
			case 6:
				s = checkTicked(t, s)
			default:
				s = sendAny(t, s, port, &d)
			}
		}
		drain(t, s, &d)
	}
	if codes[impl.SwDone] < 1000 || codes[impl.SwDrop] < 100 || codes[impl.SwLoop] < 100 {
		t.Errorf("codes %v", codes)
	}
}

// arriveAny keeps what is due then, by what the switch knew when the frame came.
func arriveAny(t *testing.T, s impl.Switch, port int64, f impl.Frame, d *due, codes map[int64]int) impl.Switch {
	t.Helper()
	n, code := checkArrived(t, s, port, f)
	codes[code]++
	if counted := n.Drops + n.Lost - s.Drops - s.Lost; counted > 1 || (counted == 1) != (code == impl.SwDrop) {
		t.Fatalf("%d: %d, %d of %d, %d", code, n.Drops, n.Lost, s.Drops, s.Lost)
	}
	if f.Kind != impl.FrData || code != impl.SwDone {
		return n
	}
	to := portsBut(s.Config.Ports, port)
	for _, e := range s.Table {
		if e.Mac == f.Dst && s.Now-e.At <= impl.MaxAge && slices.Contains(n.Table, e) {
			to = []int64{e.Port}
		}
	}
	d.add(f, to)
	return n
}

func sendAny(t *testing.T, s impl.Switch, port int64, d *due) impl.Switch {
	t.Helper()
	n, out := checkSent(t, s, port)
	count := 0
	for _, f := range out {
		if f.Kind == impl.FrData {
			d.check(t, port, f)
			count++
		}
	}
	if free := len(d[port][0]) + len(d[port][1]); count > 1 || count == 0 && (free > 0 || !s.Lanes[port].Stop && d.count(port) > 0) {
		t.Fatalf("%d are sent at %d, due is %v", count, port, d[port])
	}
	return n
}

// drain sends all that is due, and wants nothing to be left.
func drain(t *testing.T, s impl.Switch, d *due) {
	t.Helper()
	for port := range s.Config.Ports {
		s = arrive(t, s, port, resumeFrame, impl.SwDone)
		for d.count(port) > 0 {
			s = sendAny(t, s, port, d)
		}
		s = sendAny(t, s, port, d)
	}
	if len(s.Packets) != 0 || s.Counts.Lossy != 0 || slices.Max(s.Counts.Used) != 0 {
		t.Errorf("left: %+v", s)
	}
}

// anySwitch is right, but most often none to which a new one comes.
func anySwitch(next func(int64) int64) impl.Switch {
	ports := next(3) + 2
	s := switchOf(impl.Config{Ports: ports, Cells: ports*(9+15) + 30, Xoff: 9, Xon: next(9), Head: 15, Lossy: 30, Delay: 1})
	for range next(9) {
		at := portsBut(ports, next(ports+1))
		f := data(next(20)+1, next(20)+1, next(3), filler(int(next(41))))
		in := next(ports)
		if rightCountsByWords(s.Config, movedByWords(s.Counts, in, f.Prio, cellsByWords(f))) {
			hold(&s, held{s.Next + next(3), in, f, at[next(int64(len(at))):]})
		}
	}
	s.Now, s.Drops, s.Lost = next(50), next(3), next(3)
	if next(4) == 0 {
		s.Next, s.Now, s.Drops, s.Lost = impl.MaxTime-next(2), impl.MaxTime-next(2), impl.MaxTime-next(2), impl.MaxTime-next(2)
	}
	for mac := int64(1); mac <= 20 && len(s.Table) < 8; mac += 1 + next(5) {
		s.Table = append(s.Table, impl.Entry{Mac: mac, Port: next(ports), At: max(0, s.Now-next(30))})
	}
	for port := range s.Lanes {
		l := &s.Lanes[port]
		s.Counts.Paused[port], l.Stop = next(2) == 0, next(2) == 0
		l.Round.Turn, l.Round.Fresh = next(2), next(2) == 0
		for class := range l.Queues {
			if len(l.Queues[class]) > 0 {
				l.Round.Deficit[class] = next(5)
			}
		}
	}
	return s
}

// TestManySwitches holds all functions, of right switches and of such with one number off, against the document's words.
func TestManySwitches(t *testing.T) {
	next := numbers(77)
	wrong := 0
	for range 3000 {
		s := anySwitch(next)
		rightSwitch(t, s)
		for port := range s.Config.Ports {
			checkArrived(t, s, port, data(next(20)+1, next(20)+1, next(3), filler(int(next(41)))))
			checkSent(t, s, port)
		}
		checkTicked(t, s)
		all := numbersIn(&s)
		number := all[next(int64(len(all)))]
		*number += []int64{-1, 1, 2, math.MaxInt64, math.MinInt64}[next(5)]
		if !eitherSwitch(t, s) {
			wrong++
		}
	}
	if wrong < 1000 {
		t.Errorf("only %d were not right", wrong)
	}
}
