package tests

import (
	"slices"
	"testing"

	"loop.example/g00355/impl"
)

// labelled is a text of so many bytes, of one where that is below 4, that tells number from all others below 256.
func labelled(number int64, size int) string {
	if size < 4 {
		return string([]byte{byte(number)})
	}
	return body(number, size)
}

// traffic is what hosts have to send in a fabric that begins anew, no two frames of it alike, and what has become of it.
type traffic struct {
	config impl.Config
	out    [][]impl.Frame
	// The greatest Used of a port, and how many ticks a host had Stop.
	used    int64
	stopped int
	// The hosts at which an address is a Src.
	homes map[int64][]int
	ticks int
}

func newTraffic(c impl.Config, out [][]impl.Frame) *traffic {
	w := &traffic{config: c, out: out, homes: map[int64][]int{}}
	for host, frames := range out {
		for _, f := range frames {
			if !slices.Contains(w.homes[f.Src], host) {
				w.homes[f.Src] = append(w.homes[f.Src], host)
			}
		}
	}
	return w
}

// atRest tells whether nothing is to be sent, on its way, or waiting any more.
func atRest(f impl.Fabric) bool {
	for _, h := range f.Hosts {
		if len(h.Out) > 0 {
			return false
		}
	}
	return len(f.Up)+len(f.Down)+len(f.Switch.Packets) == 0 && !slices.Contains(f.Switch.Counts.Paused, true)
}

// run lets time pass until all is at rest, and looks at what must hold at each tick.
func (w *traffic) run(t *testing.T) impl.Fabric {
	t.Helper()
	f, ok := impl.FabricNew(w.config, w.out)
	if !ok {
		t.Fatalf("FabricNew(%v, ..) is false", w.config)
	}
	for !atRest(f) {
		n, ok := impl.Passed(f)
		if !ok || !impl.FabricOk(n) || n.Switch.Lost != 0 {
			t.Fatalf("%+v: Passed of %s\nis %v, %s", w.config, tellFabric(f), ok, tellFabric(n))
		}
		f = n
		w.watch(f)
		if w.ticks++; w.ticks > 2000 {
			t.Fatalf("%+v: no rest: %s", w.config, tellFabric(f))
		}
	}
	w.checkRest(t, f)
	w.checkGot(t, f)
	return f
}

func (w *traffic) watch(f impl.Fabric) {
	w.used = max(w.used, slices.Max(f.Switch.Counts.Used))
	for _, h := range f.Hosts {
		if h.Stop {
			w.stopped++
		}
	}
}

// checkRest wants nothing to be left over, and nothing to happen any more.
func (w *traffic) checkRest(t *testing.T, f impl.Fabric) {
	t.Helper()
	for port, h := range f.Hosts {
		if h.Stop || f.Switch.Counts.Used[port] != 0 || f.Switch.Lanes[port].Stop || len(f.Switch.Lanes[port].Strict) != 0 {
			t.Errorf("at rest: %s", tellFabric(f))
		}
	}
	n, ok := impl.PassedBy(f, 30)
	want := cloneFabric(f)
	want.Switch.Now, want.Switch.Table = f.Switch.Now+30, nil
	if !ok || f.Switch.Counts.Lossy != 0 || !sameFabric(n, want) {
		t.Errorf("rest: %s\nand then %s", tellFabric(f), tellFabric(n))
	}
	m, _ := impl.FabricNew(w.config, w.out)
	for left := f.Switch.Now; left > 0; left -= 200 {
		m, _ = impl.PassedBy(m, min(left, 200))
	}
	if !sameFabric(m, f) {
		t.Errorf("by many ticks: %s\nand not %s", tellFabric(m), tellFabric(f))
	}
}

// checkGot looks for each frame at each host: in order, once at most, and if it is lossless wherever it must be.
func (w *traffic) checkGot(t *testing.T, f impl.Fabric) {
	t.Helper()
	total, nowhere, mayLoop := 0, int64(0), int64(0)
	for from, frames := range w.out {
		var last [impl.MaxPorts][impl.Lossless + 1]int
		for _, frame := range frames {
			var at []int
			for host, h := range f.Hosts {
				place := slices.Index(h.Got, frame)
				if place < 0 {
					continue
				}
				at = append(at, host)
				if place < last[host][frame.Prio] || slices.Contains(h.Got[place+1:], frame) {
					t.Errorf("host %d got %v out of order or twice: %v", host, frame, h.Got)
				}
				last[host][frame.Prio] = place
			}
			total += len(at)
			if len(at) == 0 {
				nowhere++
			}
			if !w.mayHaveGone(from, frame, at) {
				t.Errorf("%v of host %d came to %v", frame, from, at)
			}
			if slices.Contains(w.homes[frame.Dst], from) {
				mayLoop++
			}
		}
	}
	for _, h := range f.Hosts {
		total -= len(h.Got)
	}
	if total != 0 || f.Switch.Drops > nowhere || nowhere > f.Switch.Drops+mayLoop {
		t.Errorf("%d more were got than sent, %d came nowhere, %d drops, %d may loop", -total, nowhere, f.Switch.Drops, mayLoop)
	}
}

// mayHaveGone tells whether a frame of the host from may have come to just these.
func (w *traffic) mayHaveGone(from int, f impl.Frame, at []int) bool {
	if slices.Contains(at, from) {
		return false
	}
	homes := w.homes[f.Dst]
	// It comes to all others, or to one at which its address was seen.
	all := len(at) == len(w.out)-1
	fine := all || len(at) == 1 && slices.Contains(homes, at[0])
	if len(at) == 0 {
		fine = f.Prio < impl.Lossless || slices.Contains(homes, from)
	}
	return fine
}

// flood is as many frames as a host may have, no two of them, nor of two hosts, alike.
func flood(host int, dst, prio int64, size int) []impl.Frame {
	var l []impl.Frame
	for i := range int64(impl.MaxHost) {
		l = append(l, data(dst, int64(host)+1, prio, labelled(int64(host)*40+i, size)))
	}
	return l
}

// tightConfigs have no cell more than they must, for each count of ports and delay.
func tightConfigs() []impl.Config {
	var l []impl.Config
	for ports := int64(2); ports <= impl.MaxPorts; ports++ {
		for delay := int64(1); delay <= 3; delay++ {
			head := 5 * (2*delay + 1)
			for _, marks := range [][2]int64{{1, 0}, {4, 1}, {5, 4}, {6, 0}, {17, 9}} {
				c := impl.Config{Ports: ports, Xoff: marks[0], Xon: marks[1], Head: head, Lossy: 10, Delay: delay}
				c.Cells = ports*(c.Xoff+c.Head) + c.Lossy
				l = append(l, c)
			}
		}
	}
	return l
}

// TestNothingLosslessIsDropped floods all hosts from all hosts with the greatest frames, and with smaller ones.
func TestNothingLosslessIsDropped(t *testing.T) {
	for _, c := range tightConfigs() {
		for _, size := range []int{1, 20, 40} {
			out := make([][]impl.Frame, c.Ports)
			for host := range out {
				out[host] = flood(host, impl.All, impl.Lossless, size)
			}
			w := newTraffic(c, out)
			f := w.run(t)
			for host, h := range f.Hosts {
				if int64(len(h.Got)) != 40*(c.Ports-1) {
					t.Errorf("host %d got %d", host, len(h.Got))
				}
			}
			if size == 40 && c.Ports > 2 && (w.used < c.Xoff || w.stopped == 0) {
				t.Errorf("%+v: %d used, %d ticks stopped", c, w.used, w.stopped)
			}
		}
	}
}

// TestHeadIsNeeded has a burst for which all but the last two frames of the room behind Xoff are used.
func TestHeadIsNeeded(t *testing.T) {
	for delay := int64(1); delay <= 3; delay++ {
		c := delayConfig(4, delay)
		out := make([][]impl.Frame, 4)
		for host := range 3 {
			out[host] = flood(host, 4, impl.Lossless, 40)
		}
		out[3] = []impl.Frame{data(9, 4, 0, "")}
		w := newTraffic(c, out)
		w.run(t)
		if w.used < c.Xoff+5*(2*delay-1) || w.stopped == 0 {
			t.Errorf("delay %d: %d of %d used, %d ticks stopped", delay, w.used, c.Xoff+c.Head, w.stopped)
		}
	}
}

// TestNothingLosslessIsDroppedForOneHost sends from all others to one host, that is known by what it sends itself, or never.
func TestNothingLosslessIsDroppedForOneHost(t *testing.T) {
	for _, c := range tightConfigs() {
		for _, known := range []bool{false, true} {
			out := make([][]impl.Frame, c.Ports)
			for host := range out[1:] {
				out[host+1] = flood(host+1, 1, impl.Lossless, 40)
			}
			if known {
				out[0] = flood(0, impl.All, 1, 4)
			}
			f := newTraffic(c, out).run(t)
			count := 0
			for _, frame := range f.Hosts[0].Got {
				if frame.Prio == impl.Lossless {
					count++
				}
			}
			if int64(count) != 40*(c.Ports-1) {
				t.Errorf("%+v: the host got %d", c, count)
			}
		}
	}
}

// TestOthersMayBeDropped has more of the other priorities than there is room for, beside lossless ones, of which none is.
func TestOthersMayBeDropped(t *testing.T) {
	drops := int64(0)
	for _, c := range tightConfigs() {
		out := make([][]impl.Frame, c.Ports)
		for host := range out {
			out[host] = flood(host, impl.All, 0, 40)
			for i := range out[host] {
				out[host][i].Prio = int64(i+host) % 3
			}
		}
		drops += newTraffic(c, out).run(t).Switch.Drops
	}
	if drops == 0 {
		t.Error("none was")
	}
}

// anyTraffic has hosts with some addresses of their own each, and maybe one that two of them have.
func anyTraffic(next func(int64) int64) *traffic {
	ports, delay := next(3)+2, next(3)+1
	c := impl.Config{Ports: ports, Xoff: next(20) + 1, Head: 5*(2*delay+1) + next(3), Lossy: next(30), Delay: delay}
	c.Xon = next(c.Xoff)
	c.Cells = ports*(c.Xoff+c.Head) + c.Lossy + next(2)
	addresses, prios, shared := next(5)+1, next(3)+1, next(3) == 0
	out := make([][]impl.Frame, ports)
	number := int64(0)
	for host := range out {
		for range next(2) * next(41) {
			src := int64(host)*5 + next(addresses) + 1
			if shared && next(10) == 0 {
				src = 20
			}
			dst := next(20) + 1
			if next(5) == 0 {
				dst = impl.All
			}
			size := int(next(38)) + 3
			out[host] = append(out[host], data(dst, src, impl.Lossless-next(prios), labelled(number, size)))
			number++
		}
	}
	return newTraffic(c, out)
}

// TestManyNewFabrics holds the promise of any fabric that begins anew.
func TestManyNewFabrics(t *testing.T) {
	next := numbers(79)
	stopped, drops := 0, int64(0)
	for range 1000 {
		w := anyTraffic(next)
		f := w.run(t)
		drops += f.Switch.Drops
		if w.stopped > 0 {
			stopped++
		}
	}
	if stopped < 100 || drops < 250 {
		t.Errorf("%d had hosts with Stop, %d drops", stopped, drops)
	}
}

// TestManyNewFabricsByWords holds each tick of such fabrics against the document's words.
func TestManyNewFabricsByWords(t *testing.T) {
	next := numbers(80)
	for range 40 {
		w := anyTraffic(next)
		f, _ := impl.FabricNew(w.config, w.out)
		for !atRest(f) {
			f = pass(t, f)
		}
	}
}

func TestOfNothingAllIsAtRest(t *testing.T) {
	for _, c := range tightConfigs() {
		w := newTraffic(c, make([][]impl.Frame, c.Ports))
		w.run(t)
		if w.ticks != 0 {
			t.Errorf("%d ticks", w.ticks)
		}
	}
}
