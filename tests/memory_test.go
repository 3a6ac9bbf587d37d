package tests

import (
	"slices"
	"strings"
	"testing"
	"unsafe"

	"loop.example/g00355/impl"
)

// sharesBytes tells whether two texts have a byte of memory in common.
func sharesBytes(a, b string) bool {
	if a == "" || b == "" {
		return false
	}
	first, other := uintptr(unsafe.Pointer(unsafe.StringData(a))), uintptr(unsafe.Pointer(unsafe.StringData(b)))
	return first < other+uintptr(len(b)) && other < first+uintptr(len(a))
}

// roomyArena is an arena with spare room behind its lists; whole looks at them with that room.
func roomyArena() impl.Arena {
	next := []int64{3, 2, -1, 4, -1, 77, 78}
	data := []string{"", "0123456789", "ab", "", "", "spare", "room"}
	for i, s := range data {
		data[i] = strings.Clone(s)
	}
	return impl.Arena{Next: next[:5], Data: data[:5], Free: 0}
}

func whole(a impl.Arena) impl.Arena {
	return impl.Arena{Next: slices.Clone(a.Next[:cap(a.Next)]), Data: slices.Clone(a.Data[:cap(a.Data)]), Free: a.Free}
}

// spoil writes over all that an answer has, its spare room too.
func spoil(a impl.Arena) {
	for i := range a.Next[:cap(a.Next)] {
		a.Next[:cap(a.Next)][i] = 99
	}
	for i := range a.Data[:cap(a.Data)] {
		a.Data[:cap(a.Data)][i] = "spoilt"
	}
}

func spoilList(l []int64) {
	for i := range l[:cap(l)] {
		l[:cap(l)][i] = 99
	}
}

func TestCellsLeaveArgumentsAlone(t *testing.T) {
	a := roomyArena()
	before := whole(a)
	calls := map[string]func(){
		"ArenaOk": func() { impl.ArenaOk(a) },
		"FreeOf":  func() { spoilList(impl.FreeOf(a)) },
		"ChainOf": func() { l, _ := impl.ChainOf(a, 1); spoilList(l) },
		"Held":    func() { impl.Held(a, 1) },
		"Taken":   func() { b, _, _ := impl.Taken(a, filler(25)); spoil(b) },
		"Given":   func() { b, _ := impl.Given(a, 1); spoil(b) },
		"refused": func() {
			impl.Taken(a, filler(31))
			impl.Given(a, 0)
			impl.ChainOf(a, 2)
		},
	}
	for name, call := range calls {
		for range 2 {
			call()
			if !sameArena(whole(a), before) {
				t.Fatalf("%s left %v of %v", name, whole(a), before)
			}
		}
	}
}

func TestSameArgumentsSameAnswers(t *testing.T) {
	a := roomyArena()
	tight := impl.Arena{Next: slices.Clip(slices.Clone(a.Next)), Data: slices.Clip(slices.Clone(a.Data)), Free: a.Free}
	for range 3 {
		b, head, ok := impl.Taken(a, filler(25))
		c, other, fine := impl.Taken(tight, filler(25))
		if !ok || !fine || head != other || !sameArena(b, c) {
			t.Errorf("Taken: %v, %d and %v, %d", b, head, c, other)
		}
		b, ok = impl.Given(a, 1)
		c, fine = impl.Given(tight, 1)
		if !ok || !fine || !sameArena(b, c) {
			t.Errorf("Given: %v and %v", b, c)
		}
	}
}

func TestTextsOfAnswersAreNew(t *testing.T) {
	a, s := roomyArena(), strings.Clone(filler(25))
	b, _, _ := impl.Taken(a, s)
	c, _ := impl.Given(b, 0)
	held, _ := impl.Held(a, 1)
	answers := slices.Concat(b.Data, c.Data, []string{held})
	if len(answers) != 11 {
		t.Fatal(answers)
	}
	for _, text := range answers {
		for _, argument := range append(slices.Clone(a.Data), s) {
			if sharesBytes(text, argument) {
				t.Errorf("%q lies in the argument %q", text, argument)
			}
		}
	}
	for i := range b.Data {
		if sharesBytes(b.Data[i], c.Data[i]) {
			t.Errorf("Given: cell %d lies in the argument", i)
		}
	}
}

func TestTextsOfFramesAreNew(t *testing.T) {
	f := data(1, 2, 0, strings.Clone("some body"))
	s := impl.FrameText(f)
	g, ok := impl.ReadFrame(s)
	if !ok || sharesBytes(s, f.Body) || sharesBytes(g.Body, s) {
		t.Errorf("%q, %v, %v", s, g, ok)
	}
}
