package tests

import (
	"encoding/binary"
	"hash/crc32"
	"math"
	"strings"
	"testing"

	"loop.example/g00355/impl"
)

// summed is the text that a frame of these bytes has, right or not: the library's sum stands behind them.
func summed(bytes string) string {
	return bytes + string(binary.LittleEndian.AppendUint32(nil, crc32.ChecksumIEEE([]byte(bytes))))
}

func data(dst, src, prio int64, body string) impl.Frame {
	return impl.Frame{Kind: impl.FrData, Dst: dst, Src: src, Prio: prio, Body: body}
}

func rightFrames() []impl.Frame {
	frames := []impl.Frame{
		{Kind: impl.FrPause, Prio: impl.Lossless},
		{Kind: impl.FrResume, Prio: impl.Lossless},
	}
	for _, dst := range []int64{1, 2, 19, 20, impl.All} {
		for _, src := range []int64{1, 7, 20} {
			for prio := int64(0); prio <= impl.Lossless; prio++ {
				for size := 0; size <= impl.MaxBody; size++ {
					frames = append(frames, data(dst, src, prio, strings.Repeat("\x00\xffa\n", 10)[:size]))
				}
			}
		}
	}
	return frames
}

func wrongFrames() []impl.Frame {
	long := strings.Repeat("x", impl.MaxBody+1)
	frames := []impl.Frame{
		{},
		data(1, 1, 0, long),
		data(impl.All, 1, 0, strings.Repeat("x", 256)),
		data(1, 1, impl.Lossless, strings.Repeat("x", 256+5)),
		{Kind: impl.FrPause, Prio: impl.Lossless, Body: long},
	}
	for _, kind := range []int64{-1, 0, 4, 255, 256, 256 + impl.FrData, math.MinInt64, math.MaxInt64} {
		frames = append(frames, impl.Frame{Kind: kind, Dst: 1, Src: 1}, impl.Frame{Kind: kind, Prio: impl.Lossless})
	}
	for _, n := range []int64{-1, 0, 21, 254, 256, 256 + 1, math.MinInt64, math.MaxInt64} {
		frames = append(frames, data(n, 1, 0, ""), data(1, n, 0, ""))
	}
	frames = append(frames, data(1, impl.All, 0, ""), data(impl.All, impl.All, 0, ""))
	for _, prio := range []int64{-1, 3, 256, 256 + impl.Lossless, math.MinInt64, math.MaxInt64} {
		frames = append(frames, data(1, 1, prio, ""))
	}
	for _, kind := range []int64{impl.FrPause, impl.FrResume} {
		for _, prio := range []int64{-1, 0, 1, 3, 256 + impl.Lossless} {
			frames = append(frames, impl.Frame{Kind: kind, Prio: prio})
		}
		frames = append(frames,
			impl.Frame{Kind: kind, Prio: impl.Lossless, Dst: 1},
			impl.Frame{Kind: kind, Prio: impl.Lossless, Dst: impl.All},
			impl.Frame{Kind: kind, Prio: impl.Lossless, Src: 1},
			impl.Frame{Kind: kind, Prio: impl.Lossless, Src: -1},
			impl.Frame{Kind: kind, Prio: impl.Lossless, Body: "x"})
	}
	return frames
}

func textOf(f impl.Frame) string {
	head := string([]byte{byte(f.Kind), byte(f.Dst), byte(f.Src), byte(f.Prio), byte(len(f.Body))})
	return summed(head + f.Body)
}

func refuses(t *testing.T, s string) {
	t.Helper()
	if f, ok := impl.ReadFrame(s); ok || f != (impl.Frame{}) {
		t.Errorf("ReadFrame(%q) = %v, %v", s, f, ok)
	}
}

func TestRightFrameComesBack(t *testing.T) {
	for _, f := range rightFrames() {
		want := textOf(f)
		if !impl.FrameOk(f) {
			t.Errorf("FrameOk(%v) is false", f)
		}
		if s := impl.FrameText(f); s != want {
			t.Errorf("FrameText(%v) = %q, want %q", f, s, want)
		}
		if g, ok := impl.ReadFrame(want); !ok || g != f {
			t.Errorf("ReadFrame(%q) = %v, %v", want, g, ok)
		}
		cells := int64(0)
		for rest := len(want); rest > 0; rest -= impl.CellSize {
			cells++
		}
		if n := impl.CellsOf(f); n != cells || n > impl.MaxCells {
			t.Errorf("CellsOf(%v) = %d, want %d", f, n, cells)
		}
	}
}

func TestFrameOfEachAddress(t *testing.T) {
	for n := int64(-2); n <= 300; n++ {
		address := n >= 1 && n <= 20
		if impl.FrameOk(data(1, n, 0, "")) != address {
			t.Errorf("Src %d", n)
		}
		if impl.FrameOk(data(n, 1, 0, "")) != (address || n == impl.All) {
			t.Errorf("Dst %d", n)
		}
	}
}

func TestFrameTextWrittenOut(t *testing.T) {
	for _, c := range []struct {
		f    impl.Frame
		text string
	}{
		{impl.Frame{Kind: impl.FrPause, Prio: impl.Lossless}, "\x02\x00\x00\x02\x00\xff\xc6\xd4\x8e"},
		{impl.Frame{Kind: impl.FrResume, Prio: impl.Lossless}, "\x03\x00\x00\x02\x00\x4f\xef\xb4\xb3"},
		{data(2, 1, 0, "a"), "\x01\x02\x01\x00\x01a\x8c\x26\x4c\x9b"},
	} {
		if s := impl.FrameText(c.f); s != c.text {
			t.Errorf("FrameText(%v) = %q", c.f, s)
		}
	}
}

func TestWrongFrameHasNoText(t *testing.T) {
	for _, f := range wrongFrames() {
		if impl.FrameOk(f) || impl.FrameText(f) != "" || impl.CellsOf(f) != 0 {
			t.Errorf("%v: %v %q %d", f, impl.FrameOk(f), impl.FrameText(f), impl.CellsOf(f))
		}
	}
}

// The bytes and the sum fit each other here, but there is no right frame with these bytes.
func TestReadFrameOfWrongFrame(t *testing.T) {
	right := map[string]bool{}
	for _, f := range rightFrames() {
		right[textOf(f)] = true
	}
	for _, f := range wrongFrames() {
		if s := textOf(f); !right[s] {
			refuses(t, s)
		}
	}
	refuses(t, summed("\x01\x02\x01\x00\x01"))
	refuses(t, summed("\x01\x02\x01\x00\x01ab"))
	refuses(t, summed("\x01\x02\x01\x00\x00a"))
	refuses(t, summed("\x01\x02\x01\x00\x29"+strings.Repeat("x", 41)))
	refuses(t, summed("\x01\x02\x01\x00\x28"+strings.Repeat("x", 41)))
	refuses(t, summed("\x01\x02\x01\x00\x00"+strings.Repeat("x", 256)))
	refuses(t, summed("\x01\x02\x01\x00"))
	refuses(t, summed(""))
}

func TestReadFrameCutOrTooLong(t *testing.T) {
	for _, f := range []impl.Frame{
		{Kind: impl.FrPause, Prio: impl.Lossless},
		data(2, 1, 0, ""),
		data(impl.All, 20, impl.Lossless, "hello, world"),
		data(1, 20, 1, strings.Repeat("y", impl.MaxBody)),
	} {
		s := textOf(f)
		for n := range len(s) {
			refuses(t, s[:n])
			refuses(t, s[n+1:])
		}
		for _, more := range []string{"\x00", "x", s, strings.Repeat("\x00", 300)} {
			refuses(t, s+more)
			refuses(t, more+s)
		}
	}
}

func TestReadFrameOfChangedByte(t *testing.T) {
	for _, f := range []impl.Frame{
		{Kind: impl.FrResume, Prio: impl.Lossless},
		data(2, 1, 0, ""),
		data(impl.All, 3, impl.Lossless, "hi"),
		data(1, 20, 1, strings.Repeat("z", impl.MaxBody)),
	} {
		s := textOf(f)
		for at := range len(s) {
			for by := 1; by < 256; by++ {
				changed := []byte(s)
				changed[at] ^= byte(by)
				refuses(t, string(changed))
			}
		}
	}
}

func TestReadFrameOfTurnedSum(t *testing.T) {
	s := textOf(data(1, 2, 0, "sum"))
	n := len(s)
	refuses(t, s[:n-4]+string([]byte{s[n-1], s[n-2], s[n-3], s[n-4]}))
	refuses(t, s[:n-4]+"\x00\x00\x00\x00")
}
