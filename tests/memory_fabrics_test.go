package tests

import (
	"runtime"
	"slices"
	"strings"
	"sync"
	"testing"
	"time"

	"loop.example/g00355/impl"
)

func ownTexts(frames []impl.Frame) []impl.Frame {
	n := slices.Clone(frames)
	for i := range n {
		n[i].Body = strings.Clone(n[i].Body)
	}
	return n
}

func ownFlights(flights []impl.Flight) []impl.Flight {
	n := slices.Clone(flights)
	for i := range n {
		n[i].Frame.Body = strings.Clone(n[i].Frame.Body)
	}
	return n
}

// roomyFabric is a right fabric with spare room behind each of its lists, and texts of its own.
func roomyFabric() impl.Fabric {
	f := busyFabric()
	config := f.Switch.Config
	f.Switch = roomySwitch()
	f.Switch.Config = config
	for i := range f.Hosts {
		h := &f.Hosts[i]
		h.Out = roomy(ownTexts(h.Out), data(1, 91, 0, "spare"), impl.Frame{Kind: 92})
		h.Got = roomy(ownTexts(h.Got), impl.Frame{Kind: 93}, data(2, 94, 0, "room"))
	}
	f.Hosts = roomy(f.Hosts, impl.Host{Stop: true, Out: []impl.Frame{{Kind: 95}}}, impl.Host{})
	f.Up = roomy(ownFlights(f.Up), impl.Flight{Port: 96}, impl.Flight{At: 97})
	f.Down = roomy(ownFlights(f.Down), impl.Flight{Port: 98}, impl.Flight{At: 89})
	return f
}

// wholeFabric looks at all the lists of a fabric with the spare room behind them.
func wholeFabric(f impl.Fabric) impl.Fabric {
	n := impl.Fabric{Switch: wholeSwitch(f.Switch), Hosts: wholeOf(f.Hosts), Up: wholeOf(f.Up), Down: wholeOf(f.Down)}
	for i, h := range n.Hosts {
		n.Hosts[i].Out, n.Hosts[i].Got = wholeOf(h.Out), wholeOf(h.Got)
	}
	return n
}

func spoilAll[T any](l []T, with T) {
	for i := range l[:cap(l)] {
		l[:cap(l)][i] = with
	}
}

// spoilFabric writes over all that an answer has, its spare room too.
func spoilFabric(f impl.Fabric) {
	spoilSwitch(f.Switch)
	for _, h := range f.Hosts[:cap(f.Hosts)] {
		spoilAll(h.Out, impl.Frame{Kind: 99})
		spoilAll(h.Got, impl.Frame{Kind: 99})
	}
	spoilAll(f.Hosts, impl.Host{Stop: true, Out: []impl.Frame{{Kind: 99}}})
	spoilAll(f.Up, impl.Flight{Port: 99})
	spoilAll(f.Down, impl.Flight{Port: 99})
}

// apartFabrics wants no list of these to share memory with another one.
func apartFabrics(t *testing.T, name string, fabrics ...impl.Fabric) {
	t.Helper()
	var switches []impl.Switch
	var hosts [][]impl.Host
	var frames [][]impl.Frame
	var flights [][]impl.Flight
	for _, f := range fabrics {
		switches, hosts, flights = append(switches, f.Switch), append(hosts, f.Hosts), append(flights, f.Up, f.Down)
		for _, h := range f.Hosts {
			frames = append(frames, h.Out, h.Got)
		}
	}
	apartSwitches(t, name, switches...)
	apart(t, name, hosts...)
	apart(t, name, frames...)
	apart(t, name, flights...)
}

func bodiesOfFabric(f impl.Fabric) []string {
	var frames []impl.Frame
	for _, h := range f.Hosts {
		frames = append(append(frames, h.Out...), h.Got...)
	}
	for _, l := range slices.Concat(f.Up, f.Down) {
		frames = append(frames, l.Frame)
	}
	return bodiesOf(f.Switch, frames...)
}

// fabricKeeper has an argument that must stay as it was, and looks at what comes of it.
type fabricKeeper struct {
	f, before impl.Fabric
}

func (k fabricKeeper) check(t *testing.T, name string, answer impl.Fabric) {
	t.Helper()
	apartFabrics(t, name, k.f, answer)
	apartTexts(t, name, bodiesOfFabric(k.f), bodiesOfFabric(answer))
	spoilFabric(answer)
	if !sameFabric(wholeFabric(k.f), k.before) {
		t.Fatalf("%s left %s\nof %s", name, tellFabric(wholeFabric(k.f)), tellFabric(k.before))
	}
}

func TestFabricsLeaveArgumentsAlone(t *testing.T) {
	right := 0
	for _, change := range []func(*impl.Fabric){
		func(f *impl.Fabric) {},
		func(f *impl.Fabric) { f.Hosts[0].Stop, f.Hosts[1].Stop = true, false },
		func(f *impl.Fabric) { f.Down = f.Down[:0] },
		func(f *impl.Fabric) { f.Up, f.Hosts[1].Out, f.Hosts[2].Got = f.Up[:0], f.Hosts[1].Out[:0], nil },
		func(f *impl.Fabric) { f.Switch.Next = impl.MaxTime },
		func(f *impl.Fabric) { f.Up = f.Up[:6] },
		func(f *impl.Fabric) { f.Down = f.Down[:8] },
		func(f *impl.Fabric) { f.Hosts = f.Hosts[:4] },
		func(f *impl.Fabric) { f.Hosts[2].Out = f.Hosts[2].Out[:2] },
		func(f *impl.Fabric) { f.Hosts[0].Got = f.Hosts[0].Got[:3] },
		func(f *impl.Fabric) { f.Switch.Lanes = f.Switch.Lanes[:4] },
	} {
		f := roomyFabric()
		change(&f)
		k := fabricKeeper{f: f, before: wholeFabric(f)}
		if impl.FabricOk(f) {
			right++
		}
		k.check(t, "FabricOk", impl.Fabric{})
		n, _ := impl.Passed(f)
		k.check(t, "Passed", n)
		for _, count := range []int64{-1, 0, 1, 2, 3, 9, 200, 201} {
			n, _ := impl.PassedBy(f, count)
			k.check(t, "PassedBy", n)
		}
	}
	if right != 5 {
		t.Errorf("%d were right", right)
	}
}

// TestFabricsInOnePiece has lists that lie in one another's memory: those of the answers lie apart all the same.
func TestFabricsInOnePiece(t *testing.T) {
	f := fabricOf(2)
	frames := ownTexts(manyFrames(12))
	flights := ownFlights(manyFlights(12, 3, 0, 2))
	for i := range f.Hosts {
		f.Hosts[i] = impl.Host{Out: frames[:4+2*i], Got: frames[i : i+5]}
	}
	f.Up, f.Down = flights[:8], flights[4:]
	rightFabric(t, f)
	before := wholeFabric(f)
	for count := range int64(12) {
		a := passBy(t, f, count)
		b, _ := impl.PassedBy(f, count)
		apartFabrics(t, "one piece", a, b)
		apartTexts(t, "one piece", slices.Concat(bodiesOfFabric(f), bodiesOfFabric(b)), bodiesOfFabric(a))
		spoilFabric(a)
		spoilFabric(b)
		if !sameFabric(wholeFabric(f), before) {
			t.Fatalf("left %s\nof %s", tellFabric(wholeFabric(f)), tellFabric(before))
		}
	}
}

// TestFabricNewIsNew hands the same list to all hosts, with spare room behind it.
func TestFabricNewIsNew(t *testing.T) {
	list := roomy(ownTexts(manyFrames(6)), impl.Frame{Kind: 77}, data(1, 2, 0, "spare"))
	lists := [][]impl.Frame{list, list[:3], list[2:], {{Kind: 78}}, nil}
	before := wholeOf(list)
	var texts []string
	for _, frame := range before {
		texts = append(texts, frame.Body)
	}
	for hosts := range 5 {
		out := lists[:hosts]
		a, ok := impl.FabricNew(buffer(), out)
		b, fine := impl.FabricNew(buffer(), out)
		if ok != (hosts == 3) || ok != fine || !sameFabric(a, b) {
			t.Errorf("%d hosts: %v, %v", hosts, ok, fine)
		}
		apartFabrics(t, "FabricNew", a, b)
		apartTexts(t, "FabricNew", slices.Concat(texts, bodiesOfFabric(b)), bodiesOfFabric(a))
		for _, f := range []impl.Fabric{a, b} {
			for _, h := range f.Hosts {
				apart(t, "FabricNew", list, h.Out, h.Got)
			}
			spoilFabric(f)
		}
		if !slices.Equal(wholeOf(list), before) || len(lists[1]) != 3 || lists[3][0].Kind != 78 || lists[4] != nil {
			t.Fatalf("left %v of %v", lists, before)
		}
	}
}

// TestSameFabricsSameAnswers asks again and again, with one processor and with several, and from several goroutines at once.
func TestSameFabricsSameAnswers(t *testing.T) {
	spacious, tight := roomyFabric(), busyFabric()
	want, ok := impl.PassedBy(tight, 30)
	if !ok {
		t.Fatal("PassedBy is false")
	}
	for _, processors := range []int{1, 2, 8} {
		kept := runtime.GOMAXPROCS(processors)
		var asking sync.WaitGroup
		for range 4 {
			asking.Go(func() {
				for range 30 {
					a, ok := impl.PassedBy(spacious, 30)
					b, fine := impl.PassedBy(tight, 30)
					if !ok || !fine || !sameFabric(a, want) || !sameFabric(b, want) {
						t.Errorf("%s\nand %s\nand not %s", tellFabric(a), tellFabric(b), tellFabric(want))
						return
					}
				}
			})
		}
		asking.Wait()
		runtime.GOMAXPROCS(kept)
	}
	a, ok := impl.Passed(spacious)
	b, fine := impl.Passed(tight)
	if !ok || !fine || !sameFabric(a, b) || impl.FabricOk(spacious) != impl.FabricOk(tight) {
		t.Errorf("Passed: %s\nand %s", tellFabric(a), tellFabric(b))
	}
}

// TestHostsAreJoined wants no goroutine to be left when calls have answered, refused ones too.
func TestHostsAreJoined(t *testing.T) {
	before := runtime.NumGoroutine()
	f, wrong := busyFabric(), busyFabric()
	wrong.Up[0].Port = 3
	for range 50 {
		impl.PassedBy(f, 20)
		impl.PassedBy(f, 201)
		impl.Passed(f)
		impl.Passed(wrong)
	}
	// One that has said its last word may still be on its way out.
	for range 100 {
		if runtime.NumGoroutine() <= before {
			return
		}
		time.Sleep(10 * time.Millisecond)
	}
	t.Errorf("%d goroutines before, %d after", before, runtime.NumGoroutine())
}
