package tests

import (
	"slices"
	"strings"
	"testing"

	"loop.example/g00355/impl"
)

// rightLines are lines that are done behind stirred, one of each kind, by their words.
func rightLines() [][]string {
	return [][]string{
		{"config", "2", "48", "4", "2", "15", "10", "1"},
		{"send", "0", "1", "2", "1", "w"},
		{"pass", "3"},
		{"got", "1"},
		{"table"},
		{"counts"},
		{"now"},
	}
}

// saidAt is what that line says behind stirred; it must leave all as it was when it says "what".
func saidAt(t *testing.T, line string) string {
	t.Helper()
	behind := slices.Concat(probes(), []string{"pass 4"}, probes())
	got := saysByWords(t, scriptOf(slices.Concat(stirred(), []string{line}, behind)...))
	said, rest, _ := strings.Cut(strings.TrimPrefix(got, strings.Repeat("ok\n", len(stirred()))), "\n")
	without := saysByWords(t, scriptOf(append(stirred(), behind...)...))
	if said == "what" && !strings.HasSuffix(without, rest) {
		t.Errorf("%q left something: %q", line, got)
	}
	return said
}

func isWhat(t *testing.T, line string) {
	t.Helper()
	if said := saidAt(t, line); said != "what" {
		t.Errorf("%q says %q", line, said)
	}
}

func isDone(t *testing.T, line string) {
	t.Helper()
	if said := saidAt(t, line); said == "what" || said == "no" {
		t.Errorf("%q says %q", line, said)
	}
}

func TestScriptWordsFewerAndMore(t *testing.T) {
	for _, words := range rightLines() {
		isDone(t, strings.Join(words, " "))
		for at := range words {
			fewer := slices.Delete(slices.Clone(words), at, at+1)
			if len(fewer) > 0 {
				isWhat(t, strings.Join(fewer, " "))
			}
		}
		for _, more := range []string{"0", "1", "x", words[0], "-"} {
			for at := range len(words) + 1 {
				isWhat(t, strings.Join(slices.Insert(slices.Clone(words), at, more), " "))
			}
		}
		if len(words) > 1 {
			isWhat(t, words[0])
		}
		isWhat(t, strings.Join(append(words, words...), " "))
		isWhat(t, strings.Join(words, " ")+strings.Repeat(" 1", 40))
	}
}

// noNumbers are words that are no numbers in decimal; some of them are for readers of other kinds of numbers.
func noNumbers() []string {
	return []string{
		"00", "01", "007", "0000000000", "000000001", "0000000001", "+0", "+1", "-0", "-1", "-", "+", "1-", "1+", "1.", "1.0", ".1", "1e0", "1_0", "0_1",
		"0x1", "0b1", "0o1", "1000000000", "1234567890", "9999999999", "10000000001", "4294967297", "18446744073709551617", "9223372036854775808", strings.Repeat("1", 300),
		"x", "a1", "1a", "1x1", "I", "l", "\t", "1\t", "\t1", "1\r", "1\x00", "\x001", "1\v", "1\f", "1\u00a0", "\u00a01", "1\u2003", "\u0661", "\uff11", "\u00b2", "\xb1", "1\xff", "1,", "1!", "1:0", "/", ":", "1/", "'1'", "\"1\"", "?",
	}
}

func TestScriptWordsThatAreNoNumbers(t *testing.T) {
	for _, words := range rightLines() {
		numbers := len(words)
		if words[0] == "send" {
			numbers--
		}
		for at := 1; at < numbers; at++ {
			for _, word := range noNumbers() {
				changed := slices.Clone(words)
				changed[at] = word
				isWhat(t, strings.Join(changed, " "))
			}
			for b := range 256 {
				if b == ' ' || b == '\n' || b >= '0' && b <= '9' {
					continue
				}
				changed := slices.Clone(words)
				changed[at] = string([]byte{byte(b)})
				says(t, scriptOf(strings.Join(changed, " "), "now"), "what", "now 0")
				changed[at] = string([]byte{'1', byte(b)})
				says(t, scriptOf(strings.Join(changed, " "), "now"), "what", "now 0")
			}
		}
	}
	// A host that is not there, or a frame that is not right, doesn't matter where a word is no number.
	says(t, scriptOf("send 9 x 1 1 a", "send 9 1 1 01 a", "send 0 99 1 -1 a", "send 0 0 0 0x a", "send 9 1 1 1 a"), "what", "what", "what", "what", "no")
	says(t, scriptOf("config 9 0 0 0 0 0 x", "config 9 0 0 0 0 0 00", "config 9 0 0 0 0 0 0", "got 09", "pass 0201", "pass 201"), "what", "what", "no", "what", "what", "no")
}

func TestScriptNumbersOfNineDigits(t *testing.T) {
	for _, word := range []string{"100000000", "123456789", "987654321", "999999999"} {
		says(t, scriptOf("pass "+word, "got "+word, "send "+word+" 1 1 1 a", "send 0 "+word+" 1 1 a", "send 0 1 "+word+" 1 a", "send 0 1 1 "+word+" a", "config "+word+" 48 4 2 15 10 1", "config 2 "+word+" 4 2 15 10 1", "config 2 48 4 2 15 10 "+word, "now"),
			"no", "what", "no", "no", "no", "no", "no", "no", "no", "now 0")
		says(t, scriptOf("pass "+word+"0", "got "+word+"0", "send "+word+"0 1 1 1 a", "send 0 "+word+"0 1 1 a", "send 0 1 "+word+"0 1 a", "send 0 1 1 "+word+"0 a", "config "+word+"0 48 4 2 15 10 1", "config 2 "+word+"0 4 2 15 10 1", "config 2 48 4 2 15 10 "+word+"0", "now"),
			"what", "what", "what", "what", "what", "what", "what", "what", "what", "now 0")
	}
}

func TestScriptFirstWords(t *testing.T) {
	for _, words := range rightLines() {
		first, rest := words[0], words[1:]
		others := []string{strings.ToUpper(first), strings.ToUpper(first[:1]) + first[1:], first[:len(first)-1] + strings.ToUpper(first[len(first)-1:]), first[:len(first)-1], first[1:], first + "s", first + first, "x" + first, first + ":", first + "!", first + "1", "." + first, "\"" + first + "\"", "#", "0", "1", "fly", "ok", "no", "what", "too", "help", "\u00e9", "\xff"}
		for _, other := range others {
			isWhat(t, strings.Join(append([]string{other}, rest...), " "))
			isWhat(t, other)
		}
		// The words of one line behind the first word of another.
		for _, other := range rightLines() {
			if len(other) != len(words) {
				isWhat(t, strings.Join(append([]string{other[0]}, rest...), " "))
			}
		}
		if len(rest) > 0 {
			isWhat(t, strings.Join(rest, " "))
			isWhat(t, first+strings.Join(rest, " "))
			isWhat(t, first+strings.Join(rest, ""))
		}
	}
}

func TestScriptBlanks(t *testing.T) {
	for _, words := range rightLines() {
		want := saidAt(t, strings.Join(words, " "))
		for _, ahead := range []string{"", " ", "   "} {
			for _, between := range []string{" ", "  ", strings.Repeat(" ", 100)} {
				for _, behind := range []string{"", " ", strings.Repeat(" ", 50)} {
					line := ahead + strings.Join(words, between) + behind
					if got := saidAt(t, line); got != want {
						t.Errorf("%q says %q, want %q", line, got, want)
					}
				}
			}
		}
	}
}

// TestScriptOtherBytesAreNoBlanks sets each byte ahead of a word, behind it, and in the place of a blank.
func TestScriptOtherBytesAreNoBlanks(t *testing.T) {
	var others []string
	for b := range 256 {
		if b != ' ' && b != '\n' && (b < '0' || b > '9') {
			others = append(others, string([]byte{byte(b)}))
		}
	}
	for _, other := range append(others, "\u00a0", "\u2003", "\u0085", "\u2028", "\ufeff", "\r", "\t\t") {
		says(t, scriptOf(other, other+"now", "now"+other, other+" now", "now "+other, " "+other+" ", "pass"+other+"3", "pass 3"+other, "pass "+other+"3", "got"+other+"0", "now"),
			"what", "what", "what", "what", "what", "what", "what", "what", "what", "what", "now 0")
		// In W it is a byte as any other, and comes back.
		says(t, scriptOf("send 0 1 255 2 "+other, "send 0 2 255 2 a"+other, "send 0 3 255 2 "+other+"b", "send 0 4 255 2 a"+other+"b", "pass 9", "got 1"),
			"ok", "ok", "ok", "ok", "ok", "got 1:"+other+" 2:a"+other+" 3:"+other+"b 4:a"+other+"b")
	}
	// Carriage returns are not taken off, nor does one end a line.
	says(t, "now\r\nnow\rnow\nsend 0 1 255 2 a\r\npass 3\ngot 1\n", "what", "what", "ok", "ok", "got 1:a\r")
}

func TestScriptWordsAsBodies(t *testing.T) {
	bodies := []string{"0", "007", "-1", "send", "!", ":", "::", "1:2", "\"a\"", "%d", "\\n", "\x00", "\xff\xfe", "\u00e9", "got"}
	var lines, want []string
	got := "got"
	for _, w := range bodies {
		lines, want, got = append(lines, "send 1 4 255 2 "+w), append(want, "ok"), got+" 4:"+w
	}
	says(t, scriptOf(append(lines, "pass 50", "got 0", "got 1", "got 2")...), append(want, "ok", got, "got", got)...)
}

func TestScriptLines(t *testing.T) {
	for _, line := range []string{"now", "", " ", "x", "pass 0", "\t"} {
		for _, count := range []int{impl.MaxScript - 1, impl.MaxScript} {
			said := saysByWords(t, strings.Repeat(line+"\n", count))
			if want := map[bool]int{true: 0, false: count}[strings.Trim(line, " ") == ""]; strings.Count(said, "\n") != want {
				t.Errorf("%d of %q say %q", count, line, said)
			}
		}
		for _, count := range []int{impl.MaxScript + 1, impl.MaxScript + 2, 400, 3000} {
			tooLong(t, strings.Repeat(line+"\n", count))
		}
	}
	// Lines that say nothing count as well, wherever they stand.
	for at := range 41 {
		lines := slices.Insert(slices.Repeat([]string{"now"}, 40), at, "")
		tooLong(t, scriptOf(lines...))
		lines = slices.Delete(lines, (at+1)%41, (at+1)%41+1)
		says(t, scriptOf(lines...), slices.Repeat([]string{"now 0"}, 39)...)
	}
}

func TestScriptLastLineIsNotEnded(t *testing.T) {
	for _, script := range []string{"now", " ", "x", "\r", "\x00", "now\r", "\n ", "now\nnow", "\nnow", "now\n ", "now\n\r", "now\n\nx", strings.Repeat("\n", 40) + " ", strings.Repeat("now\n", 39) + "now", strings.Repeat("now\n", 40) + "now"} {
		tooLong(t, script)
	}
	// Nothing is done of it, and nothing of it is said.
	text := scriptOf(slices.Concat(stirred(), probes())...)
	for end := range len(text) + 1 {
		if end == 0 || text[end-1] == '\n' {
			saysByWords(t, text[:end])
		} else {
			tooLong(t, text[:end])
		}
	}
}

func TestScriptBytes(t *testing.T) {
	for _, size := range []int{impl.MaxLines - 2, impl.MaxLines - 1, impl.MaxLines} {
		says(t, "now"+strings.Repeat(" ", size-4)+"\n", "now 0")
		says(t, strings.Repeat(" ", size-4)+"now\n", "now 0")
		says(t, strings.Repeat(" ", size-1)+"\n")
		says(t, strings.Repeat("x", size-1)+"\n", "what")
		says(t, "now\n"+strings.Repeat("x", size-9)+"\nnow\n", "now 0", "what", "now 0")
		says(t, strings.Repeat("now\n", 39)+strings.Repeat("\xff", size-157)+"\n", append(slices.Repeat([]string{"now 0"}, 39), "what")...)
		tooLong(t, strings.Repeat("x", size))
	}
	for _, size := range []int{impl.MaxLines + 1, impl.MaxLines + 2, 2 * impl.MaxLines, 100000} {
		tooLong(t, "now"+strings.Repeat(" ", size-4)+"\n")
		tooLong(t, strings.Repeat(" ", size-4)+"now\n")
		tooLong(t, strings.Repeat(" ", size-1)+"\n")
		tooLong(t, strings.Repeat("x", size-1)+"\n")
		tooLong(t, "now\n"+strings.Repeat("x", size-9)+"\nnow\n")
		tooLong(t, strings.Repeat("x", size))
		tooLong(t, strings.Repeat("\n", size))
	}
	// Bytes are counted, not letters: 2000 of two bytes each are too many with the line feed.
	tooLong(t, strings.Repeat("\u00e9", 2000)+"\n")
	says(t, strings.Repeat("\u00e9", 1999)+"\n", "what")
	// As many lines and as many bytes as may be.
	says(t, strings.Repeat(strings.Repeat("y", 99)+"\n", 40), slices.Repeat([]string{"what"}, 40)...)
}
