package tests

import (
	"fmt"
	"slices"
	"testing"

	"loop.example/g00355/impl"
)

func sameHost(a, b impl.Host) bool {
	return a.Stop == b.Stop && slices.Equal(a.Out, b.Out) && slices.Equal(a.Got, b.Got)
}

func sameFabric(a, b impl.Fabric) bool {
	return sameSwitch(a.Switch, b.Switch) && slices.EqualFunc(a.Hosts, b.Hosts, sameHost) && slices.Equal(a.Up, b.Up) && slices.Equal(a.Down, b.Down)
}

func isZeroFabric(f impl.Fabric) bool {
	return sameFabric(f, impl.Fabric{})
}

func cloneFabric(f impl.Fabric) impl.Fabric {
	n := impl.Fabric{Switch: cloneSwitch(f.Switch), Hosts: slices.Clone(f.Hosts), Up: slices.Clone(f.Up), Down: slices.Clone(f.Down)}
	for i, h := range f.Hosts {
		n.Hosts[i].Out, n.Hosts[i].Got = slices.Clone(h.Out), slices.Clone(h.Got)
	}
	return n
}

// changedFabric is f, itself left as it was, with that change.
func changedFabric(f impl.Fabric, change func(*impl.Fabric)) impl.Fabric {
	n := cloneFabric(f)
	change(&n)
	return n
}

// delayConfig has the least Head and Cells that do for so many ports and that delay.
func delayConfig(ports, delay int64) impl.Config {
	head := 5 * (2*delay + 1)
	return impl.Config{Ports: ports, Cells: ports*(4+head) + 10, Xoff: 4, Xon: 1, Head: head, Lossy: 10, Delay: delay}
}

// quietFabric has hosts with nothing to send around that switch.
func quietFabric(s impl.Switch) impl.Fabric {
	return impl.Fabric{Switch: s, Hosts: make([]impl.Host, len(s.Lanes))}
}

func flight(port, at int64, frame impl.Frame) impl.Flight {
	return impl.Flight{Port: port, At: at, Frame: frame}
}

// busyFabric has something in each list, with a delay of 3, and room beneath each limit.
func busyFabric() impl.Fabric {
	s := busySwitch()
	s.Config.Head, s.Config.Cells, s.Config.Delay = 35, 300, 3
	f := quietFabric(s)
	f.Hosts[0] = impl.Host{
		Out: []impl.Frame{data(2, 1, impl.Lossless, "to two"), data(impl.All, 1, 0, ""), data(3, 1, 1, filler(40))},
		Got: []impl.Frame{data(1, 2, 1, "x"), data(impl.All, 3, impl.Lossless, filler(11))},
	}
	f.Hosts[1] = impl.Host{Stop: true, Out: []impl.Frame{data(1, 2, impl.Lossless, "first"), data(1, 2, 1, "second"), data(1, 2, 0, "third")}}
	f.Hosts[2] = impl.Host{Stop: true, Out: []impl.Frame{data(20, 3, impl.Lossless, "held back")}, Got: []impl.Frame{data(3, 1, 0, "y")}}
	f.Up = []impl.Flight{
		flight(2, 42, data(1, 3, 0, "a")), flight(0, 41, data(2, 1, impl.Lossless, "b")), flight(1, 43, data(impl.All, 2, 1, "c")),
		flight(0, 41, data(7, 1, 1, filler(38))), flight(2, 41, data(20, 3, impl.Lossless, "d")),
	}
	f.Down = []impl.Flight{
		flight(1, 43, data(2, 1, 0, "e")), flight(2, 41, resumeFrame), flight(1, 41, data(2, 3, impl.Lossless, "f")),
		flight(2, 41, data(20, 1, 1, "g")), flight(0, 42, pauseFrame), flight(2, 43, data(3, 2, 0, filler(40))),
	}
	return f
}

// rightFlightsByWords wants a right switch.
func rightFlightsByWords(s impl.Switch, flights []impl.Flight, data bool) bool {
	for _, l := range flights {
		if l.Port < 0 || l.Port >= s.Config.Ports || !impl.FrameOk(l.Frame) || data && l.Frame.Kind != 1 {
			return false
		}
		if l.At <= s.Now || l.At > s.Now+s.Config.Delay {
			return false
		}
	}
	return len(flights) <= 1000
}

func rightFabricByWords(f impl.Fabric) bool {
	if !rightSwitchByWords(f.Switch) || int64(len(f.Hosts)) != f.Switch.Config.Ports {
		return false
	}
	for _, h := range f.Hosts {
		if len(h.Out) > 40 {
			return false
		}
		for _, frame := range slices.Concat(h.Out, h.Got) {
			if frame.Kind != 1 || !impl.FrameOk(frame) {
				return false
			}
		}
	}
	return rightFlightsByWords(f.Switch, f.Up, true) && rightFlightsByWords(f.Switch, f.Down, false)
}

// refusesPassed checks that there is no fabric later than f, whatever else is right or wrong.
func refusesPassed(t *testing.T, f impl.Fabric) {
	t.Helper()
	if n, ok := impl.Passed(f); ok || !isZeroFabric(n) {
		t.Errorf("Passed(%+v) = %+v, %v", f, n, ok)
	}
	for _, n := range []int64{-1, 0, 1, 2, impl.MaxTicks, impl.MaxTicks + 1} {
		if x, ok := impl.PassedBy(f, n); ok || !isZeroFabric(x) {
			t.Errorf("PassedBy(%+v, %d) = %+v, %v", f, n, x, ok)
		}
	}
}

func rightFabric(t *testing.T, f impl.Fabric) {
	t.Helper()
	if !impl.FabricOk(f) || !rightFabricByWords(f) {
		t.Fatalf("not right: %+v: %v, %v", f, impl.FabricOk(f), rightFabricByWords(f))
	}
}

func wrongFabric(t *testing.T, f impl.Fabric) {
	t.Helper()
	if impl.FabricOk(f) || rightFabricByWords(f) {
		t.Errorf("right: %+v: %v, %v", f, impl.FabricOk(f), rightFabricByWords(f))
	}
	refusesPassed(t, f)
}

// eitherFabric is right or not, as the document's words say.
func eitherFabric(t *testing.T, f impl.Fabric) bool {
	t.Helper()
	right := rightFabricByWords(f)
	if right {
		rightFabric(t, f)
	} else {
		wrongFabric(t, f)
	}
	return right
}

// numbersInFabric are all the numbers of a fabric, where they stand.
func numbersInFabric(f *impl.Fabric) []*int64 {
	l := numbersIn(&f.Switch)
	frame := func(x *impl.Frame) { l = append(l, &x.Kind, &x.Dst, &x.Src, &x.Prio) }
	for i := range f.Hosts {
		for _, frames := range [][]impl.Frame{f.Hosts[i].Out, f.Hosts[i].Got} {
			for at := range frames {
				frame(&frames[at])
			}
		}
	}
	for _, flights := range [][]impl.Flight{f.Up, f.Down} {
		for i := range flights {
			l = append(l, &flights[i].Port, &flights[i].At)
			frame(&flights[i].Frame)
		}
	}
	return l
}

func TestFabricsOfTheTestsAreRight(t *testing.T) {
	rightFabric(t, busyFabric())
	rightFabric(t, quietFabric(switchOf(buffer())))
	wrongFabric(t, impl.Fabric{})
}

// TestFabricEachNumberOff moves each number of a fabric on its own, and holds what comes of it against the document's words.
func TestFabricEachNumberOff(t *testing.T) {
	base := busyFabric()
	before := cloneFabric(base)
	right, wrong := 0, 0
	for at := range numbersInFabric(&base) {
		number := numbersInFabric(&base)[at]
		kept := *number
		for _, n := range append([]int64{kept - 1, kept + 1, kept - 2, kept + 2, 0, 1, 2, 3, 4, 20, 21, 40, 41, 43, 44, -1, 255}, endsOfInt64...) {
			*number = n
			if eitherFabric(t, base) {
				right++
			} else {
				wrong++
			}
		}
		*number = kept
		if !sameFabric(base, before) {
			t.Fatal("the test has spoilt its fabric")
		}
	}
	if right < 600 || wrong < 2000 {
		t.Errorf("%d right, %d wrong", right, wrong)
	}
}

// TestFabricFlightsByPortsAndDelay has each port and time at and past the limits that the switch sets them.
func TestFabricFlightsByPortsAndDelay(t *testing.T) {
	for ports := int64(2); ports <= impl.MaxPorts; ports++ {
		for delay := int64(1); delay <= 3; delay++ {
			for _, now := range []int64{0, 1, 40, impl.MaxTime - 1, impl.MaxTime} {
				f := quietFabric(switchOf(delayConfig(ports, delay)))
				f.Switch.Now = now
				rightFabric(t, f)
				for port := int64(-1); port <= ports; port++ {
					for at := now - 1; at <= now+5; at++ {
						right := port >= 0 && port < ports && at > now && at <= now+delay
						checkFlights(t, f, flight(port, at, data(1, 2, 0, "x")), right)
					}
				}
				for _, far := range endsOfInt64 {
					checkFlights(t, f, flight(far, now+1, data(1, 2, 0, "x")), false)
					checkFlights(t, f, flight(0, far, data(1, 2, 0, "x")), false)
				}
			}
		}
	}
}

// checkFlights puts a flight into Up and into Down, alone and behind one that is right.
func checkFlights(t *testing.T, f impl.Fabric, l impl.Flight, right bool) {
	t.Helper()
	first := flight(1, f.Switch.Now+1, data(2, 1, impl.Lossless, ""))
	for _, flights := range [][]impl.Flight{{l}, {first, l}, {l, first}} {
		for _, change := range []func(*impl.Fabric){
			func(f *impl.Fabric) { f.Up = flights },
			func(f *impl.Fabric) { f.Down = flights },
		} {
			if n := changedFabric(f, change); eitherFabric(t, n) != right {
				t.Fatalf("%v of a switch with %+v at %d: right is %v", flights, f.Switch.Config, f.Switch.Now, !right)
			}
		}
	}
}

// placesOf put a frame into each list of a fabric that has frames, at the beginning and at the end of it.
func placesOf(port int) map[string]func(f *impl.Fabric, frame impl.Frame) {
	return map[string]func(f *impl.Fabric, frame impl.Frame){
		"Out, first": func(f *impl.Fabric, frame impl.Frame) { h := &f.Hosts[port]; h.Out = slices.Insert(h.Out, 0, frame) },
		"Out, last":  func(f *impl.Fabric, frame impl.Frame) { h := &f.Hosts[port]; h.Out = append(h.Out, frame) },
		"Got, first": func(f *impl.Fabric, frame impl.Frame) { h := &f.Hosts[port]; h.Got = slices.Insert(h.Got, 0, frame) },
		"Got, last":  func(f *impl.Fabric, frame impl.Frame) { h := &f.Hosts[port]; h.Got = append(h.Got, frame) },
		"Up, first": func(f *impl.Fabric, frame impl.Frame) {
			f.Up = slices.Insert(f.Up, 0, flight(int64(port), f.Switch.Now+1, frame))
		},
		"Up, last": func(f *impl.Fabric, frame impl.Frame) {
			f.Up = append(f.Up, flight(int64(port), f.Switch.Now+1, frame))
		},
		"Down, first": func(f *impl.Fabric, frame impl.Frame) {
			f.Down = slices.Insert(f.Down, 0, flight(int64(port), f.Switch.Now+1, frame))
		},
		"Down, last": func(f *impl.Fabric, frame impl.Frame) {
			f.Down = append(f.Down, flight(int64(port), f.Switch.Now+1, frame))
		},
	}
}

func TestFabricFramesNotRight(t *testing.T) {
	for _, base := range []impl.Fabric{busyFabric(), quietFabric(switchOf(buffer()))} {
		for port := range 3 {
			for name, put := range placesOf(port) {
				with := func(frame impl.Frame) impl.Fabric {
					return changedFabric(base, func(f *impl.Fabric) { put(f, frame) })
				}
				for _, frame := range wrongFrames() {
					wrongFabric(t, with(frame))
				}
				for _, frame := range []impl.Frame{data(1, 20, 0, ""), data(impl.All, 1, 1, filler(40)), data(20, 20, impl.Lossless, "x")} {
					rightFabric(t, with(frame))
				}
				for _, frame := range []impl.Frame{pauseFrame, resumeFrame} {
					if right := name[:4] == "Down"; eitherFabric(t, with(frame)) != right {
						t.Errorf("%v in %s: right is %v", frame, name, !right)
					}
				}
			}
		}
	}
}

func TestFabricOfSwitchesNotRight(t *testing.T) {
	for _, base := range []impl.Fabric{busyFabric(), quietFabric(busySwitch()), quietFabric(switchOf(buffer()))} {
		for _, change := range []func(*impl.Switch){
			func(s *impl.Switch) { *s = impl.Switch{} },
			func(s *impl.Switch) { s.Config.Head = 14 },
			func(s *impl.Switch) { s.Config.Delay = 0 },
			func(s *impl.Switch) { s.Now = -1 },
			func(s *impl.Switch) { s.Next = 0 },
			func(s *impl.Switch) { s.Lost = impl.MaxTime + 1 },
			func(s *impl.Switch) { s.Counts.Lossy++ },
			func(s *impl.Switch) { s.Lanes = s.Lanes[:2] },
			func(s *impl.Switch) { s.Table = []impl.Entry{{Mac: 1, At: s.Now + 1}} },
		} {
			wrongFabric(t, changedFabric(base, func(f *impl.Fabric) { change(&f.Switch) }))
		}
	}
	for ports := int64(2); ports <= impl.MaxPorts; ports++ {
		s := switchOf(delayConfig(ports, 1))
		for hosts := range 6 {
			f := impl.Fabric{Switch: s, Hosts: make([]impl.Host, hosts)}
			if eitherFabric(t, f) != (int64(hosts) == ports) {
				t.Errorf("%d hosts at %d ports", hosts, ports)
			}
		}
	}
	for hosts := range 6 {
		f := busyFabric()
		f.Hosts = append(f.Hosts, impl.Host{}, impl.Host{})[:hosts]
		if eitherFabric(t, f) != (hosts == 3) {
			t.Errorf("%d hosts at 3 ports", hosts)
		}
	}
}

func manyFrames(count int) []impl.Frame {
	var l []impl.Frame
	for i := range count {
		l = append(l, data(int64(i%20+1), int64(i%7+1), int64(i%3), body(int64(i), 4+i%37)))
	}
	return l
}

func manyFlights(count int, ports, now, delay int64) []impl.Flight {
	var l []impl.Flight
	for i, frame := range manyFrames(count) {
		l = append(l, flight(int64(i)%ports, now+1+int64(i/3)%delay, frame))
	}
	return l
}

// TestFabricLimitsOfLists meets MaxHost and the limit of flights, and passes them by one; Got has no limit.
func TestFabricLimitsOfLists(t *testing.T) {
	for delay := int64(1); delay <= 3; delay++ {
		base := quietFabric(switchOf(delayConfig(3, delay)))
		for port := range base.Hosts {
			for _, count := range []int{impl.MaxHost - 1, impl.MaxHost, impl.MaxHost + 1, 1000} {
				f := changedFabric(base, func(f *impl.Fabric) { f.Hosts[port].Out = manyFrames(count) })
				if eitherFabric(t, f) != (count <= 40) {
					t.Errorf("Out has %d", count)
				}
				rightFabric(t, changedFabric(base, func(f *impl.Fabric) { f.Hosts[port].Got = manyFrames(count) }))
			}
			rightFabric(t, changedFabric(base, func(f *impl.Fabric) { f.Hosts[port].Got = manyFrames(2001) }))
		}
		for _, count := range []int{999, 1000, 1001, 2000} {
			flights := manyFlights(count, 3, 0, delay)
			for _, f := range []impl.Fabric{
				changedFabric(base, func(f *impl.Fabric) { f.Up = flights }),
				changedFabric(base, func(f *impl.Fabric) { f.Down = flights }),
				changedFabric(base, func(f *impl.Fabric) { f.Up, f.Down = flights, flights[:1000-count%2] }),
			} {
				if eitherFabric(t, f) != (count <= 1000) {
					t.Errorf("%d up, %d down", len(f.Up), len(f.Down))
				}
			}
		}
	}
	full := quietFabric(switchOf(delayConfig(4, 3)))
	for port := range full.Hosts {
		full.Hosts[port] = impl.Host{Out: manyFrames(40), Got: manyFrames(500)}
	}
	full.Up, full.Down = manyFlights(1000, 4, 0, 3), manyFlights(1000, 4, 0, 3)
	rightFabric(t, full)
}

// newByWords is the fabric that the document says of right arguments.
func newByWords(c impl.Config, out [][]impl.Frame) impl.Fabric {
	f := quietFabric(switchOf(c))
	for port := range f.Hosts {
		f.Hosts[port].Out = slices.Clone(out[port])
	}
	return f
}

func checkNew(t *testing.T, c impl.Config, out [][]impl.Frame) {
	t.Helper()
	f, ok := impl.FabricNew(c, out)
	if !ok || !sameFabric(f, newByWords(c, out)) {
		t.Errorf("FabricNew(%v, %v) = %+v, %v", c, out, f, ok)
	}
	rightFabric(t, f)
}

func refusesNew(t *testing.T, c impl.Config, out [][]impl.Frame) {
	t.Helper()
	if f, ok := impl.FabricNew(c, out); ok || !isZeroFabric(f) {
		t.Errorf("FabricNew(%v, %v) = %+v, %v", c, out, f, ok)
	}
}

func TestFabricNewOfEachConfig(t *testing.T) {
	for ports := int64(2); ports <= impl.MaxPorts; ports++ {
		for delay := int64(1); delay <= 3; delay++ {
			c := delayConfig(ports, delay)
			for hosts := range 7 {
				out := make([][]impl.Frame, hosts)
				for i := range out {
					out[i] = manyFrames(7 * (i + 1))
				}
				if int64(hosts) == ports {
					checkNew(t, c, out)
					checkNew(t, c, make([][]impl.Frame, hosts))
					continue
				}
				refusesNew(t, c, out)
				refusesNew(t, c, make([][]impl.Frame, hosts))
			}
			refusesNew(t, c, nil)
		}
	}
}

func TestFabricNewOfConfigsNotRight(t *testing.T) {
	lists := [][]impl.Frame{nil, {data(1, 2, 0, "x")}, nil}
	for name := range numbersOf(&impl.Config{}) {
		for _, n := range append([]int64{-1, 0, 1001}, endsOfInt64...) {
			c := configWith(buffer(), name, n)
			if rightConfigByWords(c) {
				checkNew(t, c, lists)
				continue
			}
			for hosts := range 4 {
				refusesNew(t, c, lists[:hosts])
			}
		}
	}
	for _, c := range []impl.Config{{}, configWith(buffer(), "Ports", 1), configWith(buffer(), "Head", 14), configWith(buffer(), "Cells", 66), configWith(buffer(), "Delay", 4)} {
		for hosts := range 4 {
			refusesNew(t, c, lists[:hosts])
		}
	}
	refusesNew(t, configWith(configWith(buffer(), "Ports", 5), "Cells", 1000), make([][]impl.Frame, 5))
}

func TestFabricNewOfFramesNotRight(t *testing.T) {
	c := buffer()
	for port := range 3 {
		for _, count := range []int{0, 1, impl.MaxHost - 1, impl.MaxHost, impl.MaxHost + 1, 1000} {
			out := [][]impl.Frame{manyFrames(40), manyFrames(40), manyFrames(40)}
			out[port] = manyFrames(count)
			if count <= 40 {
				checkNew(t, c, out)
			} else {
				refusesNew(t, c, out)
			}
		}
		for _, frame := range append(wrongFrames(), pauseFrame, resumeFrame) {
			for _, list := range [][]impl.Frame{{frame}, {frame, data(1, 2, 0, "x")}, {data(1, 2, 0, "x"), frame}, append(manyFrames(39), frame)} {
				out := make([][]impl.Frame, 3)
				out[port] = list
				refusesNew(t, c, out)
			}
		}
	}
	for i, frame := range rightFrames() {
		if frame.Kind == impl.FrData {
			out := make([][]impl.Frame, 3)
			out[i%3] = []impl.Frame{frame}
			checkNew(t, c, out)
		}
	}
}

// tellFabric is a fabric in few words, for what a test says when it fails.
func tellFabric(f impl.Fabric) string {
	return fmt.Sprintf("\nnow %d next %d lost %d drops %d\ntable %v\ncounts %v\npackets %v\nlanes %v\nhosts %v\nup %v\ndown %v",
		f.Switch.Now, f.Switch.Next, f.Switch.Lost, f.Switch.Drops, f.Switch.Table, f.Switch.Counts, f.Switch.Packets, f.Switch.Lanes, f.Hosts, f.Up, f.Down)
}
