package tests

import (
	"fmt"
	"runtime"
	"slices"
	"strings"
	"sync"
	"testing"

	"loop.example/g00355/impl"
)

// asks are lines that ask, those that are not understood and those that are refused among them.
func asks() []string {
	return []string{"now", "counts", "table", "got 0", "got 1", "got 2", "got 3", "got 9", "", "  ", "fly", "now 1", "pass 201", "pass x", "pass 0", "send 9 1 1 1 a", "send 0 0 1 1 a", "send 0 1 1 1", "config 0 0 0 0 0 0 0", "config 2"}
}

// anyNumber is mostly below that, and at times far off.
func anyNumber(next func(int64) int64, below int64) string {
	switch next(30) {
	case 0:
		return []string{"0", "255", "999999999", "1000000000", "01", "-1", "x", "1\t"}[next(8)]
	case 1:
		return fmt.Sprint(below + next(3))
	}
	return fmt.Sprint(next(below))
}

func anySend(next func(int64) int64) string {
	dst, prio := anyNumber(next, 8), anyNumber(next, 3)
	if next(3) == 0 {
		dst = "255"
	}
	if next(2) == 0 {
		prio = "2"
	}
	sizes := []int64{1, 2, 11, 12, 21, 22, 31, 32, 40, 40, 40, 40}
	w := fmt.Sprintf("%s%d", strings.Repeat("w", int(sizes[next(12)])), next(10))[1:]
	if next(30) == 0 {
		w += "long"
	}
	return fmt.Sprintf("send %s %s %s %s %s", anyNumber(next, 3), anyNumber(next, 8), dst, prio, w)
}

func anyConfig(next func(int64) int64) string {
	ports, delay := next(3)+2, next(3)+1
	xoff := next(9) + 1
	head, lossy := 5*(2*delay+1)+next(2), next(20)
	c := []int64{ports, ports*(xoff+head) + lossy, xoff, next(xoff), head, lossy, delay}
	if next(3) == 0 {
		c[next(7)] += next(3) - 1
	}
	line := "config"
	for _, n := range c {
		line += fmt.Sprintf(" %d", max(n, 0))
	}
	return line
}

// anyLine sends most often, so that there is something to ask for.
func anyLine(next func(int64) int64) string {
	switch n := next(20); {
	case n < 10:
		return anySend(next)
	case n < 14:
		return "pass " + anyNumber(next, 4)
	case n == 14:
		return anyConfig(next)
	case n == 15:
		return asks()[next(int64(len(asks())))]
	case n == 16:
		return "counts"
	}
	return probes()[next(7)]
}

func anyLines(next func(int64) int64) []string {
	var lines []string
	for range next(impl.MaxScript + 1) {
		lines = append(lines, anyLine(next))
	}
	return lines
}

func TestManyScripts(t *testing.T) {
	next := numbers(81)
	seen := map[string]int{}
	for range 1500 {
		text := scriptOf(anyLines(next)...)
		if len(text) > impl.MaxLines {
			t.Fatalf("%d bytes", len(text))
		}
		said := saysByWords(t, text)
		for line := range strings.Lines(said) {
			first, rest, _ := strings.Cut(strings.TrimSuffix(line, "\n"), " ")
			seen[first]++
			switch {
			case first == "counts" && strings.Contains(rest, "!"):
				seen["paused"]++
			case first == "counts" && strings.Split(rest, " ")[1] != "0":
				seen["drops"]++
			case strings.Count(rest, " ") > 1:
				seen["several "+first]++
			}
		}
	}
	for _, what := range []string{"ok", "no", "what", "now", "counts", "table", "got", "paused", "drops", "several got", "several table"} {
		if seen[what] < 30 {
			t.Errorf("%s: %d", what, seen[what])
		}
	}
}

// TestScriptStaysSaid holds what the first lines of a script said against what it says with more lines behind them.
func TestScriptStaysSaid(t *testing.T) {
	next := numbers(82)
	for range 150 {
		lines := anyLines(next)
		said := impl.RunScript(scriptOf(lines...))
		for count := range lines {
			ahead := impl.RunScript(scriptOf(lines[:count]...))
			if !strings.HasPrefix(said, ahead) {
				t.Fatalf("%q\nsaid %q\nand with %q behind it\n%q", lines[:count], ahead, lines[count:], said)
			}
			spoken := slices.DeleteFunc(slices.Clone(lines[:count]), func(line string) bool { return strings.Trim(line, " ") == "" })
			if strings.Count(ahead, "\n") != len(spoken) {
				t.Fatalf("%q\nsaid %q", lines[:count], ahead)
			}
		}
	}
}

// TestScriptStaysSaidToTheLimits has so many lines or bytes behind it that the last one is too much.
func TestScriptStaysSaidToTheLimits(t *testing.T) {
	lines := append(stirred(), probes()...)
	text := scriptOf(lines...)
	said := impl.RunScript(text)
	for more := range impl.MaxScript - len(lines) + 1 {
		says(t, text+strings.Repeat("\n", more), strings.Split(strings.TrimSuffix(said, "\n"), "\n")...)
		saysByWords(t, text+strings.Repeat("config 2 48 4 2 15 10 1\n", more))
	}
	tooLong(t, text+strings.Repeat("\n", impl.MaxScript-len(lines)+1))
	for _, size := range []int{1, 100, impl.MaxLines - len(text)} {
		got := impl.RunScript(text + strings.Repeat("z", size-1) + "\n")
		if want := said + map[bool]string{false: "what\n"}[size == 1]; got != want {
			t.Errorf("%q, want %q", got, want)
		}
	}
	tooLong(t, text+strings.Repeat("z", impl.MaxLines-len(text))+"\n")
}

// withAsks sets a line that asks between any two others, and tells at which places of what is said the others speak.
func withAsks(next func(int64) int64, lines []string) ([]string, []int) {
	var more []string
	var places []int
	said := 0
	add := func(line string) {
		more = append(more, line)
		if strings.Trim(line, " ") != "" {
			said++
		}
	}
	for _, line := range lines {
		add(asks()[next(int64(len(asks())))])
		if strings.Trim(line, " ") != "" {
			places = append(places, said)
		}
		add(line)
	}
	return more, places
}

func TestScriptAsksChangeNothing(t *testing.T) {
	next := numbers(83)
	for range 500 {
		lines := anyLines(next)
		lines = lines[:min(len(lines), impl.MaxScript/2)]
		want := strings.SplitAfter(impl.RunScript(scriptOf(lines...)), "\n")
		more, places := withAsks(next, lines)
		said := strings.SplitAfter(impl.RunScript(scriptOf(more...)), "\n")
		for i, place := range places {
			if said[place] != want[i] {
				t.Fatalf("%q\nsaid %q\nand among %q\n%q", lines, want, more, said)
			}
		}
	}
}

// TestScriptEachAskChangesNothing asks each at each place of a script in which all has something to tell.
func TestScriptEachAskChangesNothing(t *testing.T) {
	lines := slices.Concat(stirred(), probes(), []string{"pass 4"}, probes())
	want := strings.SplitAfter(saysByWords(t, scriptOf(lines...)), "\n")
	for _, ask := range asks() {
		for at := range len(lines) + 1 {
			said := strings.SplitAfter(saysByWords(t, scriptOf(slices.Insert(slices.Clone(lines), at, ask)...)), "\n")
			if strings.Trim(ask, " ") != "" {
				said = slices.Delete(said, at, at+1)
			}
			if !slices.Equal(said, want) {
				t.Fatalf("%q at %d: %q, want %q", ask, at, said, want)
			}
		}
	}
}

// TestSameScriptsSameAnswers asks again and again, with other scripts between, with one processor and with several, and from several goroutines at once.
func TestSameScriptsSameAnswers(t *testing.T) {
	next := numbers(84)
	scripts := []string{"", "now", scriptOf(append(stirred(), probes()...)...), strings.Repeat("\n", 41)}
	for range 40 {
		scripts = append(scripts, scriptOf(anyLines(next)...))
	}
	var want []string
	for _, text := range scripts {
		want = append(want, impl.RunScript(text))
	}
	for _, processors := range []int{1, 2, 8} {
		kept := runtime.GOMAXPROCS(processors)
		var asking sync.WaitGroup
		for range 4 {
			asking.Go(func() {
				for i, text := range scripts {
					if got := impl.RunScript(strings.Clone(text)); got != want[i] || impl.RunScript(text) != got {
						t.Errorf("%q says %q and %q", text, got, want[i])
					}
				}
			})
		}
		asking.Wait()
		runtime.GOMAXPROCS(kept)
	}
}

// TestScriptsLeaveNothingBehind has what one script did unknown to the next one.
func TestScriptsLeaveNothingBehind(t *testing.T) {
	fresh := impl.RunScript(scriptOf(probes()...))
	for _, text := range []string{scriptOf(stirred()...), scriptOf("config 2 48 4 2 15 10 1", "pass 7"), scriptOf("config 2"), "now", strings.Repeat("now\n", 41)} {
		impl.RunScript(text)
		if got := impl.RunScript(scriptOf(probes()...)); got != fresh {
			t.Errorf("behind %q: %q, want %q", text, got, fresh)
		}
	}
}

func TestScriptTextsAreNew(t *testing.T) {
	for _, text := range []string{"now\n", "what\n", "x\n", "got 0\n", "now", scriptOf("send 0 1 255 2 "+strings.Repeat("w", 40), "pass 3", "got 1")} {
		own := strings.Clone(text)
		if said := impl.RunScript(own); sharesBytes(own, said) || own != text {
			t.Errorf("%q says %q of its own memory", text, said)
		}
	}
}
