package impl

import "strings"

const (
	FrData   = 1
	FrPause  = 2
	FrResume = 3
	All      = 255
	MaxBody  = 40
	CellSize = 10
	MaxCells = 5
	Lossless = 2
)

const (
	maxAddress = 20
	// The bytes of a frame's text ahead of its body, and those of the sum behind it.
	headSize = 5
	sumSize  = 4
	// The polynomial of zip's CRC-32, its bits turned round as the sum takes the lowest bit first.
	sumPolynomial = 0xedb88320
)

type Frame struct {
	Kind int64
	Dst  int64
	Src  int64
	Prio int64
	Body string
}

// FrameOk tells whether f is right.
func FrameOk(f Frame) bool {
	switch f.Kind {
	case FrData:
		return isAddress(f.Src) && (isAddress(f.Dst) || f.Dst == All) &&
			f.Prio >= 0 && f.Prio <= Lossless && len(f.Body) <= MaxBody
	case FrPause, FrResume:
		return f == Frame{Kind: f.Kind, Prio: Lossless}
	}
	return false
}

// FrameText answers the bytes of f, or "" when f is not right.
func FrameText(f Frame) string {
	if !FrameOk(f) {
		return ""
	}
	text := make([]byte, 0, textSize(f))
	text = append(text, byte(f.Kind), byte(f.Dst), byte(f.Src), byte(f.Prio), byte(len(f.Body)))
	text = append(text, f.Body...)
	sum := sumOf(text)
	return string(append(text, byte(sum), byte(sum>>8), byte(sum>>16), byte(sum>>24)))
}

// ReadFrame answers the frame whose bytes s are.
func ReadFrame(s string) (Frame, bool) {
	if len(s) < headSize+sumSize || len(s) > headSize+MaxBody+sumSize {
		return Frame{}, false
	}
	f := Frame{
		Kind: int64(s[0]),
		Dst:  int64(s[1]),
		Src:  int64(s[2]),
		Prio: int64(s[3]),
		Body: strings.Clone(s[headSize : len(s)-sumSize]),
	}
	// Writing it again holds the length byte and the sum against those in s, and is "" for a frame that is not right.
	if FrameText(f) != s {
		return Frame{}, false
	}
	return f, true
}

// CellsOf answers how many cells the text of f needs, 0 when f is not right.
func CellsOf(f Frame) int64 {
	if !FrameOk(f) {
		return 0
	}
	return int64(cellsFor(textSize(f)))
}

func isAddress(n int64) bool {
	return n >= 1 && n <= maxAddress
}

func textSize(f Frame) int {
	return headSize + len(f.Body) + sumSize
}

func cellsFor(size int) int {
	return (size + CellSize - 1) / CellSize
}

// sumOf answers the CRC-32 of text, a byte at a time by an array of the sums of all bytes.
func sumOf(text []byte) uint32 {
	var sums [256]uint32
	for i := range sums {
		sums[i] = sumOfByte(uint32(i))
	}
	sum := ^uint32(0)
	for _, b := range text {
		sum = sums[byte(sum)^b] ^ sum>>8
	}
	return ^sum
}

func sumOfByte(sum uint32) uint32 {
	for range 8 {
		if sum&1 == 1 {
			sum = sum>>1 ^ sumPolynomial
		} else {
			sum >>= 1
		}
	}
	return sum
}
