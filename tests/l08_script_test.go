package tests

import (
	"fmt"
	"regexp"
	"slices"
	"strconv"
	"strings"
	"testing"

	"loop.example/g00355/impl"
)

// aNumber is a number in decimal, as the document has it.
const aNumber = ` +(0|[1-9][0-9]{0,8})`

// shapes are the lines of the chapter's table, by their first words. (?s) lets a W have any byte.
var shapes = map[string]*regexp.Regexp{
	"config": regexp.MustCompile(`(?s)^ *config` + strings.Repeat(aNumber, 7) + ` *$`),
	"send":   regexp.MustCompile(`(?s)^ *send` + strings.Repeat(aNumber, 4) + ` +([^ ]+) *$`),
	"pass":   regexp.MustCompile(`(?s)^ *pass` + aNumber + ` *$`),
	"got":    regexp.MustCompile(`(?s)^ *got` + aNumber + ` *$`),
	"table":  regexp.MustCompile(`(?s)^ *table *$`),
	"counts": regexp.MustCompile(`(?s)^ *counts *$`),
	"now":    regexp.MustCompile(`(?s)^ *now *$`),
}

// scriptConfig is that of the fabric that there is at first.
func scriptConfig() impl.Config {
	return impl.Config{Ports: 3, Cells: 100, Xoff: 4, Xon: 1, Head: 15, Lossy: 10, Delay: 1}
}

func idleByWords(c impl.Config) impl.Fabric {
	return newByWords(c, make([][]impl.Frame, c.Ports))
}

// scriptByWords is what a script that is not too long says by the document's words, and the fabric behind its last line.
func scriptByWords(text string) (string, impl.Fabric) {
	f := idleByWords(scriptConfig())
	said := ""
	for line := range strings.Lines(text) {
		line = strings.TrimSuffix(line, "\n")
		if strings.Trim(line, " ") != "" {
			said += lineByWords(&f, line) + "\n"
		}
	}
	return said, f
}

func lineByWords(f *impl.Fabric, line string) string {
	for first, shape := range shapes {
		found := shape.FindStringSubmatch(line)
		if found == nil {
			continue
		}
		var n []int64
		for _, word := range found[1:] {
			number, _ := strconv.ParseInt(word, 10, 64)
			n = append(n, number)
		}
		switch first {
		case "config":
			return configByWords(f, n)
		case "send":
			return sendLineByWords(f, n, found[5])
		case "pass":
			return passLineByWords(f, n[0])
		}
		return askByWords(*f, first, n)
	}
	return "what"
}

func configByWords(f *impl.Fabric, n []int64) string {
	c := impl.Config{Ports: n[0], Cells: n[1], Xoff: n[2], Xon: n[3], Head: n[4], Lossy: n[5], Delay: n[6]}
	if !rightConfigByWords(c) {
		return "no"
	}
	*f = idleByWords(c)
	return "ok"
}

func sendLineByWords(f *impl.Fabric, n []int64, w string) string {
	host, src, dst, prio := n[0], n[1], n[2], n[3]
	if host >= int64(len(f.Hosts)) || src < 1 || src > 20 || (dst < 1 || dst > 20) && dst != 255 || prio > 2 || len(w) > 40 || len(f.Hosts[host].Out) >= 40 {
		return "no"
	}
	f.Hosts[host].Out = append(f.Hosts[host].Out, data(dst, src, prio, w))
	return "ok"
}

func passLineByWords(f *impl.Fabric, n int64) string {
	if n > 200 {
		return "no"
	}
	for range n {
		*f = passedByWords(*f)
	}
	return "ok"
}

func askByWords(f impl.Fabric, first string, n []int64) string {
	s := f.Switch
	switch {
	case first == "got" && n[0] >= int64(len(f.Hosts)):
		return "what"
	case first == "got":
		for _, frame := range f.Hosts[n[0]].Got {
			first += fmt.Sprintf(" %d:%s", frame.Src, frame.Body)
		}
	case first == "table":
		for _, e := range s.Table {
			first += fmt.Sprintf(" %d:%d", e.Mac, e.Port)
		}
	case first == "counts":
		first += fmt.Sprintf(" %d %d %d", s.Counts.Lossy, s.Drops, s.Lost)
		for port, used := range s.Counts.Used {
			first += fmt.Sprintf(" %d%s", used, map[bool]string{true: "!"}[s.Counts.Paused[port]])
		}
	case first == "now":
		first += fmt.Sprintf(" %d", s.Now)
	}
	return first
}

// scriptOf ends each of these lines.
func scriptOf(lines ...string) string {
	text := ""
	for _, line := range lines {
		text += line + "\n"
	}
	return text
}

// says wants that script to say these lines, which are also what the document's words say.
func says(t *testing.T, script string, lines ...string) {
	t.Helper()
	want := scriptOf(lines...)
	if got := impl.RunScript(script); got != want {
		t.Errorf("%q says\n%q\nand not\n%q", script, got, want)
	}
	if byWords, _ := scriptByWords(script); byWords != want {
		t.Errorf("%q: the test wants\n%q\nand the words\n%q", script, want, byWords)
	}
}

// saysByWords wants that script to say what the document's words say.
func saysByWords(t *testing.T, script string) string {
	t.Helper()
	got := impl.RunScript(script)
	if want, f := scriptByWords(script); got != want {
		t.Fatalf("%q says\n%q\nand not\n%q\nof %s", script, got, want, tellFabric(f))
	}
	return got
}

func tooLong(t *testing.T, script string) {
	t.Helper()
	if got := impl.RunScript(script); got != "too long\n" {
		t.Errorf("%.100q of %d bytes says %q", script, len(script), got)
	}
}

// probes asks all that there is to ask; of hosts that are not there as well.
func probes() []string {
	return []string{"now", "counts", "table", "got 0", "got 1", "got 2", "got 3"}
}

// stirred is a script behind which all that may be asked has something to tell.
func stirred() []string {
	return []string{
		"send 0 1 255 2 first", "send 1 2 1 1 second", "send 2 3 255 0 third", "pass 3",
		"send 0 1 3 2 " + strings.Repeat("a", 40), "send 1 2 3 2 " + strings.Repeat("b", 40), "pass 2", "send 1 2 1 0 last",
	}
}

func TestScriptOfNothing(t *testing.T) {
	says(t, "")
	says(t, "\n")
	says(t, scriptOf("", " ", "     ", "", strings.Repeat(" ", 500)))
	says(t, scriptOf("", " ", "now", "", "  ", "now", " "), "now 0", "now 0")
	says(t, strings.Repeat("\n", impl.MaxScript))
	says(t, strings.Repeat(" \n", impl.MaxScript))
}

func TestScriptAtFirst(t *testing.T) {
	says(t, scriptOf(probes()...), "now 0", "counts 0 0 0 0 0 0", "table", "got", "got", "got", "what")
	// What FabricNew of that very Config says: the cells that it has beyond these it needs are not to be seen.
	first := slices.Concat(stirred(), probes(), []string{"pass 200"}, probes())
	anew := append([]string{"config 3 100 4 1 15 10 1"}, first...)
	if got, want := saysByWords(t, scriptOf(anew...)), "ok\n"+saysByWords(t, scriptOf(first...)); got != want {
		t.Errorf("%q and %q", got, want)
	}
}

// TestScriptAtFirstByItsNumbers shows those numbers of the first Config that can be seen by what they bring about.
func TestScriptAtFirstByItsNumbers(t *testing.T) {
	five := strings.Repeat("w", 40)
	// Delay 1: what is sent in the first tick is there in the third. Xoff 4: with four cells a port is Paused, with three it is not.
	says(t, scriptOf("send 0 1 255 2 "+strings.Repeat("w", 21), "send 1 2 255 2 "+strings.Repeat("w", 22), "pass 2", "got 2", "counts", "pass 1", "got 2"),
		"ok", "ok", "ok", "got", "counts 0 0 0 0 4! 0", "ok", "got 1:"+strings.Repeat("w", 21))
	// Xon 1: with two cells a port stays Paused, with one it does not.
	for w, flag := range map[string]string{"w": "", "ww": "!"} {
		says(t, scriptOf("send 2 3 255 2 here", "pass 3", "send 0 1 3 2 "+five, "send 1 2 3 2 "+five, "send 1 2 3 2 "+w, "pass 3", "counts", "pass 1", "counts"),
			"ok", "ok", "ok", "ok", "ok", "ok", fmt.Sprintf("counts 0 0 0 0 %d! 0", len(w)), "ok", "counts 0 0 0 0 0"+flag+" 0")
	}
	// Lossy 10: of three frames of five cells the last one is dropped, and of the other two one still waits at a port.
	says(t, scriptOf("send 0 1 255 0 "+five, "send 1 2 255 0 "+five, "send 2 3 255 0 "+five, "pass 2", "counts"),
		"ok", "ok", "ok", "ok", "counts 5 1 0 0 0 0")
}

func TestScriptConfig(t *testing.T) {
	says(t, scriptOf("config 2 48 4 2 15 10 1", "counts", "got 1", "got 2"), "ok", "counts 0 0 0 0 0", "got", "what")
	says(t, scriptOf("config 4 1000 4 3 35 844 3", "counts", "got 3", "got 4"), "ok", "counts 0 0 0 0 0 0 0", "got", "what")
	says(t, scriptOf("config 2 32 1 0 15 0 1", "config 2 31 1 0 15 0 1"), "ok", "no")
	says(t, scriptOf("config 0 0 0 0 0 0 0"), "no")
	says(t, scriptOf("config 999999999 999999999 999999999 999999999 999999999 999999999 999999999"), "no")
}

// TestScriptConfigNumbers has each number at its limits and just past these, the others being such that nothing else is wrong.
func TestScriptConfigNumbers(t *testing.T) {
	oks, nos := 0, 0
	ends := []int64{0, 1, 2, 3, 4, 5, 9, 10, 11, 14, 15, 16, 18, 19, 20, 24, 25, 26, 33, 34, 35, 36, 66, 67, 68, 99, 100, 101, 999, 1000, 1001, 999999999}
	for _, c := range []impl.Config{scriptConfig(), buffer(), delayConfig(2, 1), delayConfig(3, 2), delayConfig(4, 3), {Ports: 2, Cells: 1000, Xoff: 1, Xon: 0, Head: 15, Lossy: 968, Delay: 1}, {Ports: 2, Cells: 1000, Xoff: 485, Xon: 484, Head: 15, Lossy: 0, Delay: 1}} {
		for name := range numbersOf(&impl.Config{}) {
			n := *numbersOf(&c)[name]
			for _, n := range append(ends, n-1, n, n+1) {
				c := configWith(c, name, max(n, 0))
				line := fmt.Sprintf("config %d %d %d %d %d %d %d", c.Ports, c.Cells, c.Xoff, c.Xon, c.Head, c.Lossy, c.Delay)
				said := saysByWords(t, scriptOf("pass 7", line, "now", "counts", "send 3 1 2 0 x", "send 0 1 255 2 x", "pass 3", "got 1", "pass 4", "got 1"))
				if strings.HasPrefix(said, "ok\nok\nnow 0\n") {
					oks++
				} else if strings.HasPrefix(said, "ok\nno\nnow 7\n") {
					nos++
				} else {
					t.Errorf("%s: %q", line, said)
				}
			}
		}
	}
	if oks < 300 || nos < 500 {
		t.Errorf("%d ok, %d no", oks, nos)
	}
}

func TestScriptConfigThatIsRefused(t *testing.T) {
	wrong := []string{"config 3 66 4 1 15 10 1", "config 1 100 4 1 15 10 1", "config 5 1000 4 1 15 10 1", "config 3 100 4 4 15 10 1", "config 3 100 4 1 14 10 1", "config 3 100 4 1 15 10 2", "config 3 100 4 1 15 10 0"}
	asked := slices.Concat(stirred(), probes(), []string{"pass 5"}, probes())
	want := saysByWords(t, scriptOf(asked...))
	for _, line := range wrong {
		for at := range asked {
			got := saysByWords(t, scriptOf(slices.Insert(slices.Clone(asked), at, line)...))
			if said := strings.SplitAfter(got, "\n"); said[at] != "no\n" || strings.Join(slices.Delete(said, at, at+1), "") != want {
				t.Fatalf("%s at %d: %q and not %q", line, at, got, want)
			}
		}
	}
}

func TestScriptConfigThatIsTaken(t *testing.T) {
	for _, line := range []string{"config 3 100 4 1 15 10 1", "config 2 48 4 2 15 10 1", "config 4 1000 9 3 35 40 3"} {
		behind := slices.Concat([]string{line}, probes(), []string{"pass 9"}, probes(), []string{"send 1 7 255 2 new", "pass 9"}, probes())
		want := saysByWords(t, scriptOf(behind...))
		got := saysByWords(t, scriptOf(append(stirred(), behind...)...))
		if got != strings.Repeat("ok\n", len(stirred()))+want {
			t.Errorf("%s: %q and not %q", line, got, want)
		}
	}
	says(t, scriptOf("send 0 1 255 2 a", "pass 1", "config 3 100 4 1 15 10 1", "now", "pass 9", "got 1", "table", "now"),
		"ok", "ok", "ok", "now 0", "ok", "got", "table", "now 9")
}

func TestScriptSend(t *testing.T) {
	says(t, scriptOf("send 1 7 255 1 word", "pass 3", "got 0", "got 1", "got 2"), "ok", "ok", "got 7:word", "got", "got 7:word")
	// Src and Dst are told apart by the host that the second one finds.
	says(t, scriptOf("send 2 9 20 2 a", "pass 3", "send 0 20 9 2 b", "pass 3", "got 0", "got 1", "got 2", "table"),
		"ok", "ok", "ok", "ok", "got 9:a", "got 9:a", "got 20:b", "table 9:2 20:0")
	// Behind all that the host has to send.
	says(t, scriptOf("send 0 1 255 2 a", "send 0 1 255 2 b", "send 0 2 255 2 c", "pass 4", "got 1", "pass 1", "got 1"),
		"ok", "ok", "ok", "ok", "got 1:a 1:b", "ok", "got 1:a 1:b 2:c")
	// The Prio: Lossless goes ahead of what waits with it, and counts at its port.
	says(t, scriptOf("send 0 1 3 0 low", "send 1 2 3 2 high", "pass 2", "counts", "pass 2", "got 2"),
		"ok", "ok", "ok", "counts 2 0 0 0 0 0", "ok", "got 2:high 1:low")
}

// TestScriptSendNumbers has each number at its limits and just past these, in fabrics of 2, 3 and 4 hosts.
func TestScriptSendNumbers(t *testing.T) {
	first := []string{"config 2 48 4 2 15 10 1", "config 3 100 4 1 15 10 1", "config 4 100 4 1 15 10 1"}
	for hosts := int64(2); hosts <= 4; hosts++ {
		for place, ends := range [][]int64{{0, 1, 2, 3, 4, 5, 255, 256, 999999999}, {0, 1, 2, 19, 20, 21, 22, 254, 255, 256, 257, 999999999}, {0, 1, 2, 19, 20, 21, 22, 254, 255, 256, 257, 999999999}, {0, 1, 2, 3, 4, 255, 256, 258, 999999999}} {
			for _, n := range ends {
				numbers := []int64{1, 5, 6, 2}
				numbers[place] = n
				right := numbers[0] < hosts && numbers[1] >= 1 && numbers[1] <= 20 && (numbers[2] >= 1 && numbers[2] <= 20 || numbers[2] == 255) && numbers[3] <= 2
				line := fmt.Sprintf("send %d %d %d %d x", numbers[0], numbers[1], numbers[2], numbers[3])
				said := saysByWords(t, scriptOf(first[hosts-2], line, "pass 3", "got 0", "got 1", "table", "counts"))
				if want := map[bool]string{true: "ok\nok\nok\n", false: "ok\nno\nok\n"}[right]; !strings.HasPrefix(said, want) {
					t.Errorf("%s of %d hosts: %q", line, hosts, said)
				}
				if !right && !strings.HasSuffix(said, "got\ngot\ntable\ncounts 0 0 0"+strings.Repeat(" 0", int(hosts))+"\n") {
					t.Errorf("%s of %d hosts left something: %q", line, hosts, said)
				}
			}
		}
	}
}

func TestScriptSendWordsOfEachLength(t *testing.T) {
	for size := 1; size <= 60; size++ {
		w := strings.Repeat("0123456789", 6)[:size]
		script := scriptOf("send 0 1 255 2 "+w, "pass 3", "got 1", "got 2")
		if size <= impl.MaxBody {
			says(t, script, "ok", "ok", "got 1:"+w, "got 1:"+w)
		} else {
			says(t, script, "no", "ok", "got", "got")
		}
	}
	says(t, scriptOf("send 0 1 255 2 "+strings.Repeat("w", 256)), "no")
	says(t, scriptOf("send 0 1 255 2 "+strings.Repeat("w", 3984)), "no")
}

// TestScriptSendToTheLastOne fills a host: MaxScript lines have just room for MaxHost, so that a script can't pass it.
func TestScriptSendToTheLastOne(t *testing.T) {
	if impl.MaxHost != 40 || impl.MaxScript != 40 {
		t.Fatal("limits")
	}
	for host := range 3 {
		lines := slices.Repeat([]string{fmt.Sprintf("send %d 1 255 2 a", host)}, 40)
		says(t, scriptOf(lines...), slices.Repeat([]string{"ok"}, 40)...)
		tooLong(t, scriptOf(append(lines, lines[0])...))
		// A host that has nearly as many sends them all, in order.
		lines, got := nil, "got"
		for i := range 35 {
			lines = append(lines, fmt.Sprintf("send %d 2 255 2 w%d", host, i))
			got += fmt.Sprintf(" 2:w%d", i)
		}
		lines = append(lines, "pass 200", fmt.Sprintf("got %d", (host+1)%3), fmt.Sprintf("got %d", (host+2)%3), fmt.Sprintf("got %d", host))
		says(t, scriptOf(lines...), append(slices.Repeat([]string{"ok"}, 36), got, got, "got")...)
	}
}

func TestScriptPass(t *testing.T) {
	says(t, scriptOf("pass 0", "now", "pass 1", "now", "pass 199", "now", "pass 200", "now", "pass 201", "now", "pass 999999999", "now"),
		"ok", "now 0", "ok", "now 1", "ok", "now 200", "ok", "now 400", "no", "now 400", "no", "now 400")
	// One that is refused leaves what is on its way where it is.
	says(t, scriptOf("send 0 1 255 2 a", "pass 2", "pass 201", "got 1", "pass 0", "got 1", "pass 1", "got 1"),
		"ok", "ok", "no", "got", "ok", "got", "ok", "got 1:a")
	// As late as a script can come, which is far ahead of where PassedBy refuses.
	late := append(slices.Repeat([]string{"pass 200"}, 37), "send 0 1 255 2 late", "pass 200", "now")
	says(t, scriptOf(late...), append(slices.Repeat([]string{"ok"}, 39), "now 7600")...)
	says(t, scriptOf(append(slices.Repeat([]string{"pass 200"}, 39), "now")...), append(slices.Repeat([]string{"ok"}, 39), "now 7800")...)
}

// TestScriptPassInPieces has a frame on a way of Delay 3 and asks at each tick.
func TestScriptPassInPieces(t *testing.T) {
	lines, want := []string{"config 2 1000 4 1 35 10 3", "send 1 20 1 0 far"}, []string{"ok", "ok"}
	for now := 1; now <= 12; now++ {
		lines, want = append(lines, "pass 1", "now", "got 0"), append(want, "ok", fmt.Sprintf("now %d", now))
		if now < 7 {
			want = append(want, "got")
		} else {
			want = append(want, "got 20:far")
		}
	}
	says(t, scriptOf(lines...), want...)
}

func TestScriptGot(t *testing.T) {
	long := strings.Repeat("m", impl.MaxBody)
	says(t, scriptOf("got 0", "got 1", "got 2", "got 3", "got 9", "got 999999999"), "got", "got", "got", "what", "what", "what")
	says(t, scriptOf("send 0 1 255 1 a", "send 1 2 255 2 "+long, "send 2 3 255 0 :", "pass 9", "got 0", "got 1", "got 2"),
		"ok", "ok", "ok", "ok", "got 2:"+long+" 3::", "got 3:: 1:a", "got 2:"+long+" 1:a")
	says(t, scriptOf("config 2 48 4 2 15 10 1", "send 0 1 2 2 a", "pass 3", "got 1", "got 2", "config 4 1000 4 2 15 10 1", "got 1", "got 2", "got 3", "got 4"),
		"ok", "ok", "ok", "got 1:a", "what", "ok", "got", "got", "got", "what")
	// Told again it is the same; what it got is kept.
	says(t, scriptOf("send 0 20 255 2 a", "pass 200", "got 1", "got 1", "pass 200", "got 1"), "ok", "ok", "got 20:a", "got 20:a", "ok", "got 20:a")
}

func TestScriptTable(t *testing.T) {
	says(t, scriptOf("table", "pass 5", "table"), "table", "ok", "table")
	// By rising Mac, whoever came first; who comes from elsewhere is told where it was seen last.
	says(t, scriptOf("send 2 20 255 2 a", "send 1 3 255 2 a", "send 0 11 255 2 a", "pass 1", "table", "pass 1", "table", "send 0 20 255 0 b", "pass 2", "table"),
		"ok", "ok", "ok", "ok", "table", "ok", "table 3:1 11:0 20:2", "ok", "ok", "table 3:1 11:0 20:0")
	// Seen at 2: known up to 22.
	says(t, scriptOf("send 0 1 255 2 a", "pass 22", "table", "pass 1", "table"), "ok", "ok", "table 1:0", "ok", "table")
	// MaxTable of them, and one more: the one with the least At goes.
	var lines, want []string
	for mac := 9; mac >= 1; mac-- {
		lines, want = append(lines, fmt.Sprintf("send 1 %d 255 2 a", mac)), append(want, "ok")
	}
	says(t, scriptOf(append(lines, "pass 9", "table", "pass 1", "table")...),
		append(want, "ok", "table 2:1 3:1 4:1 5:1 6:1 7:1 8:1 9:1", "ok", "table 1:1 2:1 3:1 4:1 5:1 6:1 7:1 8:1")...)
}

func TestScriptCounts(t *testing.T) {
	five := strings.Repeat("c", impl.MaxBody)
	// Two that send to a third: one is held back, Paused ports are told with their Used, others without.
	says(t, scriptOf("send 2 3 255 2 here", "pass 3", "send 0 1 3 2 "+five, "send 1 2 3 2 "+five, "send 1 2 3 2 x", "pass 2", "counts", "pass 1", "counts", "pass 1", "counts", "pass 1", "counts"),
		"ok", "ok", "ok", "ok", "ok", "ok", "counts 0 0 0 0! 5! 0", "ok", "counts 0 0 0 0 1! 0", "ok", "counts 0 0 0 0 0 0", "ok", "counts 0 0 0 0 0 0")
	// Lossy, and Drops.
	says(t, scriptOf("send 2 3 255 2 here", "pass 3", "send 0 1 3 0 "+five, "send 1 2 3 1 "+five, "send 0 1 3 0 "+five, "send 1 2 3 1 "+five, "pass 2", "counts", "pass 1", "counts", "pass 9", "counts", "got 2"),
		"ok", "ok", "ok", "ok", "ok", "ok", "ok", "counts 5 0 0 0 0 0", "ok", "counts 5 1 0 0 0 0", "ok", "counts 0 1 0 0 0 0", "got 2:"+five+" 1:"+five+" 1:"+five)
	// With no room at all for them all are dropped; of what is lossless nothing is.
	says(t, scriptOf("config 2 32 1 0 15 0 1", "send 0 1 2 0 a", "send 0 1 2 1 b", "send 0 1 2 2 c", "pass 9", "counts", "got 1"),
		"ok", "ok", "ok", "ok", "ok", "counts 0 2 0 0 0", "got 1:c")
	says(t, scriptOf("config 4 1000 4 2 35 10 3", "counts", "send 0 1 2 2 "+five, "pass 4", "counts"),
		"ok", "counts 0 0 0 0 0 0 0", "ok", "ok", "counts 0 0 0 0! 0 0 0")
}

func TestScriptNow(t *testing.T) {
	says(t, scriptOf("now", "pass 3", "now", "now", "pass 0", "now", "pass 100", "now", "config 2 48 4 2 15 10 1", "now"),
		"now 0", "ok", "now 3", "now 3", "ok", "now 3", "ok", "now 103", "ok", "now 0")
}
