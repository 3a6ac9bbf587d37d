package tests

import (
	"slices"
	"testing"

	"loop.example/g00355/impl"
)

// passedByWords is one tick by the document's words, one step after the other; it is of right fabrics, ahead of the end of time.
func passedByWords(f impl.Fabric) impl.Fabric {
	n := cloneFabric(f)
	n.Switch, _ = tickedByWords(n.Switch)
	downByWords(&n)
	sendByWords(&n)
	upByWords(&n)
	for port := range n.Switch.Config.Ports {
		var frames []impl.Frame
		n.Switch, frames = sentByWords(n.Switch, port)
		for _, frame := range frames {
			n.Down = append(n.Down, flight(port, n.Switch.Now+n.Switch.Config.Delay, frame))
		}
	}
	return n
}

func downByWords(f *impl.Fabric) {
	var away []impl.Flight
	for _, l := range f.Down {
		h := &f.Hosts[l.Port]
		switch {
		case l.At != f.Switch.Now:
			away = append(away, l)
		case l.Frame.Kind == 2:
			h.Stop = true
		case l.Frame.Kind == 3:
			h.Stop = false
		default:
			h.Got = append(h.Got, l.Frame)
		}
	}
	f.Down = away
}

func sendByWords(f *impl.Fabric) {
	for port := range f.Hosts {
		h := &f.Hosts[port]
		at := 0
		for h.Stop && at < len(h.Out) && h.Out[at].Prio == 2 {
			at++
		}
		if at < len(h.Out) {
			f.Up = append(f.Up, flight(int64(port), f.Switch.Now+f.Switch.Config.Delay, h.Out[at]))
			h.Out = slices.Delete(h.Out, at, at+1)
		}
	}
}

func upByWords(f *impl.Fabric) {
	var away []impl.Flight
	for _, l := range f.Up {
		if l.At == f.Switch.Now {
			f.Switch, _ = arrivedByWords(f.Switch, l.Port, l.Frame)
		} else {
			away = append(away, l)
		}
	}
	f.Up = away
}

// pass is one tick of a right fabric, held against the document's words.
func pass(t *testing.T, f impl.Fabric) impl.Fabric {
	t.Helper()
	n, ok := impl.Passed(f)
	want := passedByWords(f)
	if !ok || !sameFabric(n, want) {
		t.Fatalf("Passed of %s\nis %v, %s\nand not %s", tellFabric(f), ok, tellFabric(n), tellFabric(want))
	}
	return n
}

// passBy is so many ticks of a right fabric, held against the document's words.
func passBy(t *testing.T, f impl.Fabric, count int64) impl.Fabric {
	t.Helper()
	n, ok := impl.PassedBy(f, count)
	want := f
	for range count {
		want = passedByWords(want)
	}
	if !ok || !sameFabric(n, want) {
		t.Fatalf("PassedBy(.., %d) of %s\nis %v, %s\nand not %s", count, tellFabric(f), ok, tellFabric(n), tellFabric(want))
	}
	return n
}

// lossless is a frame of that Prio.
func lossless(dst, src int64, body string) impl.Frame {
	return data(dst, src, impl.Lossless, body)
}

// fabricOf is a new fabric with three hosts that have that to send.
func fabricOf(delay int64, out ...[]impl.Frame) impl.Fabric {
	return newByWords(delayConfig(3, delay), append(out, make([][]impl.Frame, 3)...)[:3])
}

func wantFlights(t *testing.T, name string, got []impl.Flight, want ...impl.Flight) {
	t.Helper()
	if !slices.Equal(got, want) {
		t.Errorf("%s: %v, want %v", name, got, want)
	}
}

func wantFrames(t *testing.T, name string, got []impl.Frame, want ...impl.Frame) {
	t.Helper()
	if !slices.Equal(got, want) {
		t.Errorf("%s: %v, want %v", name, got, want)
	}
}

// TestPassedFromHostToHost follows one frame through each tick that its links take.
func TestPassedFromHostToHost(t *testing.T) {
	for delay := int64(1); delay <= 3; delay++ {
		for prio := range int64(impl.Lossless + 1) {
			frame := data(impl.All, 5, prio, "on its way")
			f := fabricOf(delay, nil, []impl.Frame{frame})
			for now := int64(1); now <= 2*delay+2; now++ {
				f = pass(t, f)
				var up, down []impl.Flight
				if now <= delay {
					up = []impl.Flight{flight(1, 1+delay, frame)}
				} else if now <= 2*delay {
					down = []impl.Flight{flight(0, 1+2*delay, frame), flight(2, 1+2*delay, frame)}
				}
				wantFlights(t, "up", f.Up, up...)
				wantFlights(t, "down", f.Down, down...)
				if f.Switch.Now != now || len(f.Hosts[1].Out) != 0 || len(f.Switch.Packets) != 0 {
					t.Errorf("%d: %s", now, tellFabric(f))
				}
				var got []impl.Frame
				if now > 2*delay {
					got = []impl.Frame{frame}
				}
				wantFrames(t, "first", f.Hosts[0].Got, got...)
				wantFrames(t, "itself", f.Hosts[1].Got)
				wantFrames(t, "last", f.Hosts[2].Got, got...)
			}
		}
	}
}

// TestPassedAgesFirst has an entry that goes with this tick, and one that is known for this one tick more.
func TestPassedAgesFirst(t *testing.T) {
	for delay := int64(1); delay <= 3; delay++ {
		f := fabricOf(delay)
		f.Switch.Now = 30
		f.Switch.Table = []impl.Entry{{Mac: 7, Port: 1, At: 10}, {Mac: 8, Port: 1, At: 11}}
		f.Up = []impl.Flight{flight(0, 31, data(7, 3, 1, "all")), flight(0, 31, data(8, 3, 1, "one"))}
		n := pass(t, f)
		if !slices.Equal(n.Switch.Table, []impl.Entry{{Mac: 3, Port: 0, At: 31}, {Mac: 8, Port: 1, At: 11}}) {
			t.Errorf("table %v", n.Switch.Table)
		}
		wantFlights(t, "down", n.Down, flight(1, 31+delay, data(7, 3, 1, "all")), flight(2, 31+delay, data(7, 3, 1, "all")))
		if len(n.Switch.Packets) != 1 || !slices.Equal(waitsAt(n.Switch, 2, 1), []int64{1}) {
			t.Errorf("waits: %v", n.Switch.Packets)
		}
	}
	// A full table with one that is too old: with it gone there is room for all that were seen since.
	f := fabricOf(1)
	f.Switch.Now, f.Switch.Table = 30, []impl.Entry{{Mac: 1, At: 29}, {Mac: 2, At: 11}, {Mac: 3, At: 12}, {Mac: 4, At: 10}, {Mac: 5, At: 30}, {Mac: 6, At: 13}, {Mac: 7, At: 14}, {Mac: 8, At: 20}}
	f.Up = []impl.Flight{flight(1, 31, data(2, 9, 0, ""))}
	n := pass(t, f)
	if len(n.Switch.Table) != 8 || impl.PortOf(n.Switch.Table, 2, 31) != 0 || impl.PortOf(n.Switch.Table, 9, 31) != 1 {
		t.Errorf("table %v", n.Switch.Table)
	}
	wantFlights(t, "down", n.Down, flight(0, 32, data(2, 9, 0, "")))
}

// TestPassedPauseHoldsInItsTick has FrPause and FrResume that are there in the tick in which the host would send.
func TestPassedPauseHoldsInItsTick(t *testing.T) {
	for delay := int64(1); delay <= 3; delay++ {
		for port := range int64(3) {
			for _, stop := range []bool{false, true} {
				for _, told := range [][]impl.Frame{{}, {pauseFrame}, {resumeFrame}, {pauseFrame, resumeFrame}, {resumeFrame, pauseFrame}, {pauseFrame, pauseFrame, resumeFrame}, {resumeFrame, pauseFrame, resumeFrame, pauseFrame}} {
					for _, late := range []bool{false, true} {
						if late && delay == 1 {
							continue
						}
						checkPause(t, delay, port, stop, told, late)
					}
				}
			}
		}
	}
}

// checkPause tells a host something, in this tick or in the next one.
func checkPause(t *testing.T, delay, port int64, stop bool, told []impl.Frame, late bool) {
	t.Helper()
	f := fabricOf(delay)
	at := int64(1)
	if late {
		at = 2
	}
	for other := range f.Hosts {
		f.Hosts[other].Stop = stop
		f.Hosts[other].Out = []impl.Frame{lossless(impl.All, int64(other)+1, "a"), lossless(impl.All, int64(other)+1, "b")}
	}
	for _, frame := range told {
		f.Down = append(f.Down, flight(port, at, frame))
	}
	n := pass(t, f)
	var up []impl.Flight
	for other := range n.Hosts {
		held := stop
		if int64(other) == port && len(told) > 0 && !late {
			held = told[len(told)-1] == pauseFrame
		}
		if n.Hosts[other].Stop != held {
			t.Errorf("%v told %d: host %d has Stop %v", told, port, other, n.Hosts[other].Stop)
		}
		if !held {
			up = append(up, flight(int64(other), 1+delay, lossless(impl.All, int64(other)+1, "a")))
		}
	}
	wantFlights(t, "up", n.Up, up...)
}

// TestPassedStopHoldsBackLossless has lossless frames ahead of others, and nothing but lossless ones.
func TestPassedStopHoldsBackLossless(t *testing.T) {
	a, b, c, d := lossless(2, 1, "a"), data(2, 1, 1, "b"), lossless(2, 1, "c"), data(2, 1, 0, "d")
	for _, x := range []struct {
		stop      bool
		out, left []impl.Frame
		sent      []impl.Frame
	}{
		{true, []impl.Frame{a, b, c, d}, []impl.Frame{a, c, d}, []impl.Frame{b}},
		{true, []impl.Frame{a, c, d, b}, []impl.Frame{a, c, b}, []impl.Frame{d}},
		{true, []impl.Frame{d, a}, []impl.Frame{a}, []impl.Frame{d}},
		{true, []impl.Frame{b}, nil, []impl.Frame{b}},
		{true, []impl.Frame{a, c}, []impl.Frame{a, c}, nil},
		{true, []impl.Frame{c}, []impl.Frame{c}, nil},
		{true, nil, nil, nil},
		{false, []impl.Frame{a, b, c, d}, []impl.Frame{b, c, d}, []impl.Frame{a}},
		{false, []impl.Frame{b, a}, []impl.Frame{a}, []impl.Frame{b}},
		{false, []impl.Frame{c, a}, []impl.Frame{a}, []impl.Frame{c}},
		{false, nil, nil, nil},
	} {
		for port := range int64(3) {
			for delay := int64(1); delay <= 3; delay++ {
				f := fabricOf(delay)
				f.Hosts[port] = impl.Host{Stop: x.stop, Out: x.out, Got: []impl.Frame{d}}
				n := pass(t, f)
				var up []impl.Flight
				for _, frame := range x.sent {
					up = append(up, flight(port, 1+delay, frame))
				}
				wantFlights(t, "up", n.Up, up...)
				wantFrames(t, "out", n.Hosts[port].Out, x.left...)
				wantFrames(t, "got", n.Hosts[port].Got, d)
				if n.Hosts[port].Stop != x.stop {
					t.Errorf("Stop is %v", n.Hosts[port].Stop)
				}
			}
		}
	}
}

// TestPassedSendsFromTheStopOn lets a host with Stop send all that is not lossless, one a tick, and the rest when it may.
func TestPassedSendsFromTheStopOn(t *testing.T) {
	out := []impl.Frame{lossless(9, 1, "a"), data(9, 1, 1, "b"), lossless(9, 1, "c"), data(9, 1, 0, "d"), lossless(9, 1, "e"), data(9, 1, 1, "f")}
	f := fabricOf(1, out)
	f.Hosts[0].Stop = true
	for _, want := range []string{"b", "d", "f", "", ""} {
		f = pass(t, f)
		if want == "" {
			wantFlights(t, "up", f.Up)
		} else if len(f.Up) != 1 || f.Up[0].Frame.Body != want {
			t.Errorf("up %v, want %s", f.Up, want)
		}
	}
	f.Hosts[0].Stop = false
	for _, want := range []string{"a", "c", "e"} {
		f = pass(t, f)
		if len(f.Up) != 1 || f.Up[0].Frame.Body != want {
			t.Errorf("up %v, want %s", f.Up, want)
		}
	}
}

// TestPassedFlightsInOrder has several that are there in one tick, among others that are not, up and down.
func TestPassedFlightsInOrder(t *testing.T) {
	frame := func(number int64) impl.Frame { return data(9, 3, 0, body(number, 4)) }
	for order := range int64(6) {
		f := fabricOf(3)
		var got, away []int64
		for i := range int64(9) {
			at := []int64{1, 2, 3, 1, 3, 2, 2, 1, 1, 3, 3, 2, 1, 1}[i+order%6]
			f.Down = append(f.Down, flight(1, at, frame(i)))
			if at == 1 {
				got = append(got, i)
			} else {
				away = append(away, i)
			}
		}
		n := pass(t, f)
		if len(n.Hosts[1].Got) != len(got) || len(n.Down) != len(away) {
			t.Fatalf("%d there, %d away", len(n.Hosts[1].Got), len(n.Down))
		}
		for i, number := range got {
			if n.Hosts[1].Got[i] != frame(number) {
				t.Errorf("got %v, want %v", n.Hosts[1].Got, got)
			}
		}
		for i, number := range away {
			if n.Down[i].Frame != frame(number) {
				t.Errorf("away %v, want %v", n.Down, away)
			}
		}
		f.Up, f.Down = f.Down, nil
		m := pass(t, f)
		if ids := m.Switch.Next - 1; ids != int64(len(got)) || len(m.Up) != len(away) {
			t.Fatalf("%d arrived, %d away", ids, len(m.Up))
		}
		// The first one is sent in this very tick; all behind it wait in the order in which they came.
		for i, number := range got[1:] {
			if m.Switch.Packets[i].Frame != frame(number) {
				t.Errorf("wait %v, want %v", m.Switch.Packets, got)
			}
		}
		for i, number := range away {
			if m.Up[i].Frame != frame(number) {
				t.Errorf("away %v, want %v", m.Up, away)
			}
		}
	}
}

// TestPassedArrivesInOrder has a frame that is known where it goes only if another one came ahead of it.
func TestPassedArrivesInOrder(t *testing.T) {
	first, second := flight(2, 1, lossless(6, 5, "first")), flight(0, 1, lossless(5, 6, "second"))
	f := fabricOf(2)
	f.Up = []impl.Flight{first, second}
	n := pass(t, f)
	wantFlights(t, "down", n.Down, flight(0, 3, first.Frame), flight(1, 3, first.Frame), flight(2, 3, second.Frame))
	f.Up = []impl.Flight{second, first}
	n = pass(t, f)
	wantFlights(t, "down", n.Down, flight(0, 3, first.Frame), flight(1, 3, second.Frame), flight(2, 3, second.Frame))
}

// TestPassedSendsBehindAllOthers puts what hosts and ports send behind what is on its way, by their places.
func TestPassedSendsBehindAllOthers(t *testing.T) {
	up, down := flight(2, 3, data(9, 2, 0, "up")), flight(2, 2, data(9, 2, 0, "down"))
	a, b, c := data(9, 1, 0, "a"), lossless(9, 2, "b"), data(9, 3, 1, "c")
	f := fabricOf(3, []impl.Frame{a}, []impl.Frame{b, a}, []impl.Frame{c})
	f.Up, f.Down = []impl.Flight{up}, []impl.Flight{down}
	hold(&f.Switch, held{1, 1, b, []int64{0, 2}})
	hold(&f.Switch, held{2, 0, a, []int64{1}})
	hold(&f.Switch, held{3, 1, c, []int64{2}})
	n := pass(t, f)
	wantFlights(t, "up", n.Up, up, flight(0, 4, a), flight(1, 4, b), flight(2, 4, c))
	wantFlights(t, "down", n.Down, down, flight(0, 4, b), flight(1, 4, a), flight(2, 4, b))
	wantFrames(t, "out", n.Hosts[1].Out, a)
}

// TestPassedTellsBehindWhatArrives has a port that must pause for what arrives in this very tick, and one that may go on for what is sent in it.
func TestPassedTellsBehindWhatArrives(t *testing.T) {
	for delay := int64(1); delay <= 3; delay++ {
		great := lossless(impl.All, 1, filler(40))
		f := fabricOf(delay)
		f.Up = []impl.Flight{flight(0, 1, great)}
		n := pass(t, f)
		wantFlights(t, "pause", n.Down, flight(0, 1+delay, pauseFrame), flight(1, 1+delay, great), flight(2, 1+delay, great))
		if !n.Switch.Counts.Paused[0] || n.Switch.Counts.Used[0] != 0 {
			t.Errorf("%v", n.Switch.Counts)
		}
		// Port 0 has sent ahead of the last that was freed: it is told in the next tick.
		n = pass(t, n)
		wantFlights(t, "resume", n.Down[len(n.Down)-1:], flight(0, 2+delay, resumeFrame))
		// Port 2 comes behind those that free its cells: it is told nothing, but resumes at once where it was paused.
		f.Up = []impl.Flight{flight(2, 1, great)}
		n = pass(t, f)
		wantFlights(t, "none", n.Down, flight(0, 1+delay, great), flight(1, 1+delay, great))
		f.Switch.Counts.Paused[2] = true
		n = pass(t, f)
		wantFlights(t, "at once", n.Down, flight(0, 1+delay, great), flight(1, 1+delay, great), flight(2, 1+delay, resumeFrame))
	}
}

// TestPassedGoesNowhere has a frame whose address is known where it came from: it is not counted.
func TestPassedGoesNowhere(t *testing.T) {
	for prio := range int64(impl.Lossless + 1) {
		f := fabricOf(1, []impl.Frame{data(1, 1, prio, "to myself"), data(2, 1, prio, "to two")})
		n := passBy(t, f, 4)
		wantFrames(t, "one", n.Hosts[1].Got, data(2, 1, prio, "to two"))
		wantFrames(t, "two", n.Hosts[2].Got, data(2, 1, prio, "to two"))
		if n.Switch.Lost+n.Switch.Drops != 0 || len(n.Switch.Packets) != 0 || n.Switch.Next != 2 {
			t.Errorf("%s", tellFabric(n))
		}
	}
}

// TestPassedDropsAreCounted has more of what may be lost than there is room for.
func TestPassedDropsAreCounted(t *testing.T) {
	f := fabricOf(1)
	for range 12 {
		f.Up = append(f.Up, flight(0, 1, data(9, 1, 0, "")))
	}
	n := pass(t, f)
	if n.Switch.Drops != 2 || n.Switch.Lost != 0 || n.Switch.Next != 11 {
		t.Errorf("%s", tellFabric(n))
	}
	for i := range f.Up {
		f.Up[i].Frame = lossless(9, 1, filler(40))
	}
	// No new fabric comes to this: twelve at once from one port.
	n = pass(t, f)
	if n.Switch.Drops != 0 || n.Switch.Lost != 9 || n.Switch.Next != 4 {
		t.Errorf("%s", tellFabric(n))
	}
	f.Switch.Next = impl.MaxTime
	n = pass(t, f)
	if n.Switch.Drops != 0 || n.Switch.Lost != 12 || n.Switch.Next != impl.MaxTime {
		t.Errorf("%s", tellFabric(n))
	}
}

func TestPassedOfTheBusyFabric(t *testing.T) {
	f := busyFabric()
	n := pass(t, f)
	wantFrames(t, "host 0", n.Hosts[0].Got, f.Hosts[0].Got...)
	wantFrames(t, "host 1", n.Hosts[1].Got, data(2, 3, impl.Lossless, "f"))
	wantFrames(t, "host 2", n.Hosts[2].Got, data(3, 1, 0, "y"), data(20, 1, 1, "g"))
	if n.Hosts[0].Stop || !n.Hosts[1].Stop || n.Hosts[2].Stop {
		t.Errorf("%v", n.Hosts)
	}
	wantFlights(t, "up", n.Up, f.Up[0], f.Up[2], flight(0, 44, data(2, 1, impl.Lossless, "to two")), flight(1, 44, data(1, 2, 1, "second")), flight(2, 44, data(20, 3, impl.Lossless, "held back")))
	for range 30 {
		n = pass(t, n)
	}
	for count := range int64(31) {
		passBy(t, f, count)
	}
}

// TestPassedAtTheEndOfTime has just enough time for MaxTicks, and one tick too few, however few are asked for.
func TestPassedAtTheEndOfTime(t *testing.T) {
	for _, base := range []impl.Fabric{busyFabric(), quietFabric(switchOf(buffer())), fabricOf(2, manyFrames(40), manyFrames(40), manyFrames(40))} {
		late := func(now int64) impl.Fabric {
			f := cloneFabric(base)
			for i := range f.Up {
				f.Up[i].At += now - f.Switch.Now
			}
			for i := range f.Down {
				f.Down[i].At += now - f.Switch.Now
			}
			f.Switch.Now = now
			rightFabric(t, f)
			return f
		}
		last := late(impl.MaxTime - impl.MaxTicks)
		if n := pass(t, last); n.Switch.Now != impl.MaxTime-199 {
			t.Errorf("now %d", n.Switch.Now)
		}
		for _, count := range []int64{0, 1, 2, 199, 200} {
			if n := passBy(t, last, count); n.Switch.Now != impl.MaxTime-200+count || !impl.FabricOk(n) {
				t.Errorf("%d: now %d", count, n.Switch.Now)
			}
		}
		for _, now := range []int64{impl.MaxTime - 199, impl.MaxTime - 198, impl.MaxTime - 1, impl.MaxTime} {
			refusesPassed(t, late(now))
		}
		pass(t, late(impl.MaxTime-201))
	}
}

func TestPassedByLimits(t *testing.T) {
	for _, f := range []impl.Fabric{busyFabric(), quietFabric(switchOf(buffer())), fabricOf(3, manyFrames(40), nil, manyFrames(40))} {
		for _, n := range append([]int64{-200, -2, -1, impl.MaxTicks + 1, impl.MaxTicks + 2, 1000}, endsOfInt64...) {
			if x, ok := impl.PassedBy(f, n); ok || !isZeroFabric(x) {
				t.Errorf("PassedBy(.., %d) = %s, %v", n, tellFabric(x), ok)
			}
		}
		if n := passBy(t, f, 0); !sameFabric(n, f) {
			t.Errorf("no tick: %s", tellFabric(n))
		}
		if n := passBy(t, f, 1); !sameFabric(n, pass(t, f)) {
			t.Errorf("one tick: %s", tellFabric(n))
		}
		steps := f
		for count := int64(0); count <= impl.MaxTicks; count++ {
			n, ok := impl.PassedBy(f, count)
			if !ok || !sameFabric(n, steps) || n.Switch.Now != f.Switch.Now+count {
				t.Fatalf("%d ticks: %v, %s and %s", count, ok, tellFabric(n), tellFabric(steps))
			}
			steps = pass(t, steps)
		}
	}
}

// TestPassedInPieces has ticks in one call as in two.
func TestPassedInPieces(t *testing.T) {
	f := fabricOf(2, manyFrames(40), manyFrames(33), manyFrames(40))
	for _, first := range []int64{0, 1, 7, 100, 199, 200} {
		n := passBy(t, passBy(t, f, first), 200-first)
		if whole, _ := impl.PassedBy(f, 200); !sameFabric(n, whole) {
			t.Errorf("%d and %d ticks: %s and %s", first, 200-first, tellFabric(n), tellFabric(whole))
		}
	}
}

// TestPassedOfManyFlights has as many flights as a right fabric may have, with room for no more behind them.
// The document asks how many there are ahead of a tick alone: more of them behind it are told all the same, and are not right then.
func TestPassedOfManyFlights(t *testing.T) {
	f := fabricOf(3, manyFrames(40), manyFrames(40), manyFrames(40))
	for i := range int64(1000) {
		f.Up = append(f.Up, flight(i%3, 3, data(9, 1, 1, body(i, 10))))
		f.Down = append(f.Down, flight(i%3, 3, data(9, 1, 1, body(i, 10))))
	}
	hold(&f.Switch, held{1, 0, data(9, 1, 0, ""), []int64{1}})
	rightFabric(t, f)
	n := pass(t, f)
	if len(n.Up) != 1003 || len(n.Down) != 1001 {
		t.Errorf("%d up, %d down", len(n.Up), len(n.Down))
	}
	wrongFabric(t, n)
	n = passBy(t, f, 2)
	if len(n.Up) != 1006 {
		t.Errorf("%d up", len(n.Up))
	}
	n = passBy(t, f, 3)
	if len(n.Up) != 9 || len(n.Hosts[0].Got) != 334 || len(n.Hosts[2].Got) != 333 || !impl.FabricOk(n) {
		t.Errorf("%d up, %d got", len(n.Up), len(n.Hosts[0].Got))
	}
	passBy(t, f, 200)
	// With the shortest delay all of them are there at once.
	f = fabricOf(1)
	f.Up, f.Down = manyFlights(1000, 3, 0, 1), manyFlights(1000, 3, 0, 1)
	n = pass(t, f)
	if len(n.Up) != 0 || len(n.Hosts[0].Got)+len(n.Hosts[1].Got)+len(n.Hosts[2].Got) != 1000 {
		t.Errorf("%d up", len(n.Up))
	}
}

// anyFabric is a right fabric around any switch.
func anyFabric(next func(int64) int64) impl.Fabric {
	s := anySwitch(next)
	s.Config.Delay = next(3) + 1
	s.Config.Head += 10 * (s.Config.Delay - 1)
	s.Config.Cells += 20 * s.Config.Ports
	if next(2) == 0 {
		s.Now = min(s.Now, impl.MaxTime-impl.MaxTicks)
		for i := range s.Table {
			s.Table[i].At = min(s.Table[i].At, s.Now)
		}
	}
	f := quietFabric(s)
	frame := func() impl.Frame {
		dst := next(20) + 1
		if next(4) == 0 {
			dst = impl.All
		}
		return data(dst, next(20)+1, next(3), filler(int(next(41))))
	}
	for port := range f.Hosts {
		h := &f.Hosts[port]
		h.Stop = next(2) == 0
		for range next(6) {
			h.Out = append(h.Out, frame())
		}
		for range next(4) {
			h.Got = append(h.Got, frame())
		}
	}
	for range next(9) {
		f.Up = append(f.Up, flight(next(s.Config.Ports), s.Now+1+next(s.Config.Delay), frame()))
		down := []impl.Frame{pauseFrame, resumeFrame, frame(), frame()}[next(4)]
		f.Down = append(f.Down, flight(next(s.Config.Ports), s.Now+1+next(s.Config.Delay), down))
	}
	return f
}

// TestManyFabrics holds all functions, of right fabrics and of such with one number off, against the document's words.
func TestManyFabrics(t *testing.T) {
	next := numbers(78)
	wrong, late := 0, 0
	for range 2000 {
		f := anyFabric(next)
		rightFabric(t, f)
		if f.Switch.Now > impl.MaxTime-impl.MaxTicks {
			refusesPassed(t, f)
			late++
		} else {
			passBy(t, f, next(12))
			rightFabric(t, pass(t, f))
		}
		all := numbersInFabric(&f)
		number := all[next(int64(len(all)))]
		*number += []int64{-1, 1, 2, endsOfInt64[0], endsOfInt64[5]}[next(5)]
		if !eitherFabric(t, f) {
			wrong++
		}
	}
	if wrong < 700 || late < 100 {
		t.Errorf("%d were not right, %d late", wrong, late)
	}
}
