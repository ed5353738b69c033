package tests

import (
	"fmt"
	"math"
	"slices"
	"strings"
	"testing"

	"loop.example/g00843/impl"
)

// The tests write Lines as a text, a word for each: `e` for a LineEdge or `l` for a LineLevel, the interrupt, `^` if it is high and `!` if it is raised.

// lineFrom returns the Line of a word.
func lineFrom(word string) impl.Line {
	x := impl.Line{Irq: int(word[1] - '0'), High: strings.Contains(word, "^"), Raised: strings.Contains(word, "!")}
	if word[0] == 'l' {
		x.Kind = impl.LineLevel
	}
	return x
}

// linesFrom returns the Lines of a text.
func linesFrom(text string) []impl.Line {
	var list []impl.Line
	for _, word := range strings.Fields(text) {
		list = append(list, lineFrom(word))
	}
	return list
}

// lineSteps tells for each state of a Line, a word without the interrupt, which follows if it is driven low, driven high, and taken.
var lineSteps = map[string][3]string{
	"e":   {"e", "e^!", "e"},
	"e^":  {"e", "e^", "e^"},
	"e!":  {"e!", "e^!", "e"},
	"e^!": {"e!", "e^!", "e^"},
	"l":   {"l", "l^!", "l"},
	"l^!": {"l", "l^!", "l^!"},
}

var lineStates = []string{"e", "e^", "e!", "e^!", "l", "l^!"}

const (
	stepLow = iota
	stepHigh
	stepTake
)

// stateOf returns the state of a Line.
func stateOf(x impl.Line) string {
	state := "e"
	if x.Kind == impl.LineLevel {
		state = "l"
	}
	if x.High {
		state += "^"
	}
	if x.Raised {
		state += "!"
	}
	return state
}

// withState returns a Line with a state that leads to an interrupt.
func withState(state string, irq int) impl.Line {
	return lineFrom(state[:1] + string(rune('0'+irq)) + state[1:])
}

// afterStep returns the Line that follows a valid one.
func afterStep(x impl.Line, step int) impl.Line { return withState(lineSteps[stateOf(x)][step], x.Irq) }

func driveStep(high bool) int {
	if high {
		return stepHigh
	}
	return stepLow
}

// manyLines returns no Lines, each one alone, all states of two that lead to the same interrupt and to two, and many others of all lengths.
func manyLines() [][]impl.Line {
	all := [][]impl.Line{nil, {}}
	for irq := range 8 {
		for _, state := range lineStates {
			all = append(all, []impl.Line{withState(state, irq)})
			for _, second := range lineStates {
				all = append(all, []impl.Line{withState(state, irq), withState(second, irq)})
				all = append(all, []impl.Line{withState(state, irq), withState(second, 7-irq)})
			}
		}
	}
	next := numbers(7)
	for i := range 3000 {
		list := make([]impl.Line, 1+i%6)
		for line := range list {
			list[line] = withState(lineStates[next(6)], (next(1+i/6%8)+i)%8)
		}
		all = append(all, list)
	}
	return all
}

// levelsFrom returns levels as many as Lines, which are the bits of a number.
func levelsFrom(count int, bits int) []bool {
	levels := make([]bool, count)
	for i := range levels {
		levels[i] = bits>>i&1 == 1
	}
	return levels
}

func otherKinds() []int { return append([]int{2, 3, 4, 8, 16}, farCounts...) }

// otherTimes are no numbers of pulses.
var otherTimes = []int{-1, -2, -100, 101, 102, 127, 128, 200, 255, 256, 1 << 16, 1 << 32, 1<<32 + 1, 1<<32 + 100, math.MaxInt, math.MinInt, math.MinInt + 1}

// invalidLines are Lines of which one part is out of its range, and levels that are not raised exactly while they are high.
func invalidLines() []impl.Line {
	lines := linesFrom("l0^ l7^ l3^ l0! l7! l3!")
	for _, state := range lineStates {
		for _, kind := range otherKinds() {
			x := withState(state, 3)
			x.Kind = kind
			lines = append(lines, x)
		}
		for _, irq := range otherIrqs() {
			x := withState(state, 0)
			x.Irq = irq
			lines = append(lines, x)
		}
	}
	return lines
}

// invalidLists have more than MaxLines Lines, or one that is invalid.
func invalidLists() [][]impl.Line {
	lists := [][]impl.Line{make([]impl.Line, 1<<20)}
	for _, state := range lineStates {
		for _, n := range []int{7, 8, 12, 64} {
			lists = append(lists, slices.Repeat([]impl.Line{withState(state, 3)}, n))
		}
	}
	for i, x := range invalidLines() {
		lists = append(lists, []impl.Line{x})
		for line := range 6 {
			list := linesFrom("e0 l0 e7^ e3! l7^! e3^!")
			list[line] = x
			lists = append(lists, list, list[line:], list[:line+1])
		}
		if i < 6 {
			lists = append(lists, append(linesFrom("e0 l0 e0^! l0^! e1 e2"), x))
		}
	}
	return lists
}

// wantLines compares what a call returned with Lines.
func wantLines(t *testing.T, name string, got []impl.Line, ok bool, want []impl.Line) {
	t.Helper()
	if !ok || !slices.Equal(got, want) {
		t.Fatalf("%s = %v, %v instead of %v", name, got, ok, want)
	}
}

// wantInterrupts compares what a call returned with interrupts.
func wantInterrupts(t *testing.T, name string, got []int, ok bool, want []int) {
	t.Helper()
	if !ok || !slices.Equal(got, want) {
		t.Fatalf("%s = %v, %v instead of %v", name, got, ok, want)
	}
}

// wantNoLines wants that a call failed.
func wantNoLines(t *testing.T, name string, got []impl.Line, count int, ok bool) {
	t.Helper()
	if ok || len(got) != 0 || count != 0 {
		t.Fatalf("%s = %v, %d, %v", name, got, count, ok)
	}
}

func TestLineConstants(t *testing.T) {
	if impl.LineEdge != 0 || impl.LineLevel != 1 || impl.MaxLines != 6 {
		t.Error("the numbers are", impl.LineEdge, impl.LineLevel, impl.MaxLines)
	}
}

// A LineEdge has four states and a LineLevel two, for each interrupt.
func TestIsLine(t *testing.T) {
	valid := 0
	for kind := -3; kind <= 5; kind++ {
		for irq := -9; irq <= 17; irq++ {
			for bits := range 4 {
				x := impl.Line{Kind: kind, Irq: irq, High: bits&1 > 0, Raised: bits&2 > 0}
				_, isState := lineSteps[stateOf(x)]
				want := irq >= 0 && irq <= 7 && (kind == 0 || kind == 1) && isState
				if got := impl.IsLine(x); got != want {
					t.Errorf("IsLine(%v) = %v", x, got)
				}
				if want {
					valid++
				}
			}
		}
	}
	if valid != 8*6 {
		t.Errorf("%d Lines are valid", valid)
	}
}

func TestInvalidLinesAreRefused(t *testing.T) {
	for _, x := range invalidLines() {
		if impl.IsLine(x) {
			t.Errorf("%v is a Line", x)
		}
		for _, high := range []bool{false, true} {
			if got, ok := impl.DriveLine(x, high); ok || got != (impl.Line{}) {
				t.Errorf("DriveLine(%v, %v) = %v, %v", x, high, got, ok)
			}
		}
		if got, was, ok := impl.TakeLine(x); ok || was || got != (impl.Line{}) {
			t.Errorf("TakeLine(%v) = %v, %v, %v", x, got, was, ok)
		}
	}
}

func TestAreLines(t *testing.T) {
	for _, list := range manyLines() {
		if !impl.AreLines(list) {
			t.Fatalf("%v are no Lines", list)
		}
	}
	for _, state := range lineStates {
		for n := range 7 {
			if list := slices.Repeat([]impl.Line{withState(state, 7)}, n); !impl.AreLines(list) {
				t.Errorf("%v are no Lines", list)
			}
		}
	}
}

func TestInvalidListsAreRefused(t *testing.T) {
	for _, list := range invalidLists() {
		name := fmt.Sprint(len(list), list[:min(len(list), 8)])
		if impl.AreLines(list) {
			t.Errorf("%s are Lines", name)
		}
		for _, bits := range []int{0, -1} {
			got, ok := impl.DriveLines(list, levelsFrom(len(list), bits))
			wantNoLines(t, "DriveLines "+name, got, 0, ok)
		}
		for _, irq := range []int{0, 3, 7} {
			got, count, ok := impl.TakeLines(list, irq)
			wantNoLines(t, "TakeLines "+name, got, count, ok)
		}
		for line := range min(len(list), 8) {
			for _, times := range []int{0, 1, 2, 100} {
				got, count, ok := impl.PulseLine(list, line, times)
				wantNoLines(t, "PulseLine "+name, got, count, ok)
			}
		}
		for call, f := range map[string]func([]impl.Line) ([]int, bool){"RaisedIrqs": impl.RaisedIrqs, "SharedIrqs": impl.SharedIrqs, "MixedIrqs": impl.MixedIrqs} {
			if got, ok := f(list); ok || len(got) != 0 {
				t.Errorf("%s(%s) = %v, %v", call, name, got, ok)
			}
		}
	}
}

func TestOtherInterruptsLinesAndNumbersAreRefused(t *testing.T) {
	for _, list := range manyLines()[:700] {
		for _, irq := range otherIrqs() {
			got, count, ok := impl.TakeLines(list, irq)
			wantNoLines(t, fmt.Sprintf("TakeLines(%v, %d)", list, irq), got, count, ok)
		}
		for _, line := range append([]int{len(list), len(list) + 1, 6, 7, 8, 16}, farCounts...) {
			for _, times := range []int{0, 1, 100} {
				got, count, ok := impl.PulseLine(list, line, times)
				wantNoLines(t, fmt.Sprintf("PulseLine(%v, %d, %d)", list, line, times), got, count, ok)
			}
		}
		for line := range list {
			for _, times := range otherTimes {
				got, count, ok := impl.PulseLine(list, line, times)
				wantNoLines(t, fmt.Sprintf("PulseLine(%v, %d, %d)", list, line, times), got, count, ok)
			}
		}
		for n := range 9 {
			if n != len(list) {
				got, ok := impl.DriveLines(list, levelsFrom(n, 0b10110))
				wantNoLines(t, fmt.Sprintf("DriveLines(%v) with %d levels", list, n), got, 0, ok)
			}
		}
	}
}

// Each state of a Line is driven and taken; the tests that follow are built from the same table.
func TestDriveLineAndTakeLine(t *testing.T) {
	for irq := range 8 {
		for _, state := range lineStates {
			x := withState(state, irq)
			for _, high := range []bool{false, true} {
				if got, ok := impl.DriveLine(x, high); !ok || got != afterStep(x, driveStep(high)) {
					t.Errorf("DriveLine(%v, %v) = %v, %v", x, high, got, ok)
				}
			}
			if got, was, ok := impl.TakeLine(x); !ok || was != strings.Contains(state, "!") || got != afterStep(x, stepTake) {
				t.Errorf("TakeLine(%v) = %v, %v, %v", x, got, was, ok)
			}
		}
	}
}

// A path writes what happens to a Line one after the other: `h` if it is driven high, `l` if it is driven low, and `t` if it is taken.
func TestPathsOfOneLine(t *testing.T) {
	for _, c := range []struct{ start, path, end string }{
		{"e3", "", "e3"}, {"e3", "h", "e3^!"}, {"e3", "hh", "e3^!"}, {"e3", "hl", "e3!"}, {"e3", "hll", "e3!"},
		{"e3", "l", "e3"}, {"e3", "ll", "e3"}, {"e3", "t", "e3"}, {"e3", "ht", "e3^"},
		{"e3", "hth", "e3^"}, {"e3", "hthhh", "e3^"}, {"e3", "hthl", "e3"}, {"e3", "htlh", "e3^!"}, {"e3", "htlhl", "e3!"},
		{"e3", "hlt", "e3"}, {"e3", "hlth", "e3^!"}, {"e3", "hltl", "e3"}, {"e3", "hlhlhlt", "e3"}, {"e3", "hlhlht", "e3^"}, {"e3", "hlhltt", "e3"},
		{"l3", "", "l3"}, {"l3", "h", "l3^!"}, {"l3", "hh", "l3^!"}, {"l3", "hl", "l3"}, {"l3", "hll", "l3"},
		{"l3", "l", "l3"}, {"l3", "t", "l3"}, {"l3", "ht", "l3^!"}, {"l3", "htt", "l3^!"}, {"l3", "hth", "l3^!"},
		{"l3", "htl", "l3"}, {"l3", "htlt", "l3"}, {"l3", "htlh", "l3^!"}, {"l3", "hlt", "l3"}, {"l3", "lht", "l3^!"},
	} {
		x := lineFrom(c.start)
		for _, step := range c.path {
			x = stepLine(t, x, step)
		}
		if x != lineFrom(c.end) {
			t.Errorf("%s becomes %v by %q instead of %s", c.start, x, c.path, c.end)
		}
	}
}

// stepLine makes one step of a path.
func stepLine(t *testing.T, x impl.Line, step rune) impl.Line {
	after, ok := x, true
	if step == 't' {
		var was bool
		after, was, ok = impl.TakeLine(x)
		if was != x.Raised {
			t.Fatalf("TakeLine(%v) tells %v", x, was)
		}
	} else {
		after, ok = impl.DriveLine(x, step == 'h')
	}
	if !ok || !impl.IsLine(after) {
		t.Fatalf("%v becomes %v, %v by %q", x, after, ok, step)
	}
	return after
}

// raisedBy tells from its whole path whether a Line, which was low and not raised at first, is raised: a level if it was driven high last, and an edge if it went from low to high since it was taken last.
func raisedBy(kind int, path string) bool {
	if kind == impl.LineLevel {
		return highBy(path)
	}
	taken := strings.LastIndexByte(path, 't') + 1
	since := strings.ReplaceAll(path[taken:], "t", "")
	if highBy(path[:taken]) {
		since = "h" + since
	} else {
		since = "l" + since
	}
	return strings.Contains(since, "lh")
}

func highBy(path string) bool {
	return strings.LastIndexByte(path, 'h') > strings.LastIndexByte(path, 'l')
}

// wantPaths follows all paths of up to a number of more steps.
func wantPaths(t *testing.T, x impl.Line, path string, more int) {
	if x.High != highBy(path) || x.Raised != raisedBy(x.Kind, path) {
		t.Fatalf("%v after %q", x, path)
	}
	if more == 0 {
		return
	}
	for _, step := range "hlt" {
		after := stepLine(t, x, step)
		if after.Kind != x.Kind || after.Irq != x.Irq {
			t.Fatalf("%v becomes %v", x, after)
		}
		wantPaths(t, after, path+string(step), more-1)
	}
}

func TestAllShortPaths(t *testing.T) {
	wantPaths(t, lineFrom("e0"), "", 10)
	wantPaths(t, lineFrom("e7"), "", 6)
	wantPaths(t, lineFrom("l0"), "", 10)
	wantPaths(t, lineFrom("l7"), "", 6)
}

func TestDriveLines(t *testing.T) {
	for _, c := range []struct{ text, levels, after string }{
		{"", "", ""},
		{"e0", "h", "e0^!"}, {"e0", "l", "e0"}, {"l7", "h", "l7^!"}, {"l7^!", "l", "l7"},
		{"e3 l3 e5", "hhl", "e3^! l3^! e5"},
		{"e3^ l3^! e5^!", "hhh", "e3^ l3^! e5^!"},
		{"e3^ l3^! e5^!", "lll", "e3 l3 e5!"},
		{"e3! l3 e5!", "hlh", "e3^! l3 e5^!"},
		{"e0 e0^ e0! e0^! l0 l0^!", "hhhhhh", "e0^! e0^ e0^! e0^! l0^! l0^!"},
		{"e0 e0^ e0! e0^! l0 l0^!", "llllll", "e0 e0 e0! e0! l0 l0"},
		{"e7 e7 e7 e7 e7 e7", "hlhlhl", "e7^! e7 e7^! e7 e7^! e7"},
		{"l7 l6 l5 l4 l3 l2", "lhlhlh", "l7 l6^! l5 l4^! l3 l2^!"},
	} {
		var levels []bool
		for _, level := range c.levels {
			levels = append(levels, level == 'h')
		}
		got, ok := impl.DriveLines(linesFrom(c.text), levels)
		wantLines(t, fmt.Sprintf("DriveLines(%q, %q)", c.text, c.levels), got, ok, linesFrom(c.after))
	}
}

func TestDriveLinesOfManyLists(t *testing.T) {
	for _, list := range manyLines() {
		for bits := range 1 << len(list) {
			levels := levelsFrom(len(list), bits)
			want := slices.Clone(list)
			for i, high := range levels {
				want[i] = afterStep(list[i], driveStep(high))
			}
			got, ok := impl.DriveLines(list, levels)
			if !ok || !slices.Equal(got, want) || !impl.AreLines(got) {
				t.Fatalf("DriveLines(%v, %v) = %v, %v instead of %v", list, levels, got, ok, want)
			}
		}
	}
}

// A Line that is driven as high or low as it is stays as it is, whatever else is driven.
func TestOnlyDrivenLinesChange(t *testing.T) {
	for _, list := range manyLines() {
		same := make([]bool, len(list))
		for i, x := range list {
			same[i] = x.High
		}
		got, ok := impl.DriveLines(list, same)
		wantLines(t, "DriveLines to the same levels", got, ok, list)
		for i, x := range list {
			same[i] = !x.High
			want := slices.Clone(list)
			want[i] = afterStep(x, driveStep(!x.High))
			got, ok := impl.DriveLines(list, same)
			wantLines(t, fmt.Sprintf("DriveLines(%v, %v)", list, same), got, ok, want)
			same[i] = x.High
		}
	}
}

func TestRaisedSharedAndMixedIrqs(t *testing.T) {
	for _, c := range []struct {
		text                  string
		raised, shared, mixed []int
	}{
		{"", nil, nil, nil},
		{"e0", nil, nil, nil}, {"e0^", nil, nil, nil}, {"e0!", []int{0}, nil, nil}, {"e0^!", []int{0}, nil, nil},
		{"l7", nil, nil, nil}, {"l7^!", []int{7}, nil, nil},
		// Several to the same interrupt, of one Kind and of both.
		{"e3 e3", nil, []int{3}, nil}, {"e3! e3", []int{3}, []int{3}, nil}, {"e3 e3!", []int{3}, []int{3}, nil}, {"e3! e3^!", []int{3}, []int{3}, nil},
		{"l3 l3", nil, []int{3}, nil}, {"l3 l3^!", []int{3}, []int{3}, nil}, {"l3^! l3^!", []int{3}, []int{3}, nil},
		{"e3 l3", nil, []int{3}, []int{3}}, {"l3 e3^", nil, []int{3}, []int{3}}, {"l3^! e3", []int{3}, []int{3}, []int{3}},
		{"e3! l3", []int{3}, []int{3}, []int{3}}, {"e3! l3^!", []int{3}, []int{3}, []int{3}},
		{"e0 l1", nil, nil, nil}, {"e1! l0^!", []int{0, 1}, nil, nil},
		// In ascending order, each once.
		{"e7! e5! e3! l6^! l4^! l2^!", []int{2, 3, 4, 5, 6, 7}, nil, nil},
		{"e7! l0^! e7 l0 e7! l0^!", []int{0, 7}, []int{0, 7}, nil},
		{"e7 e0^ l7 l0 e4 e4", nil, []int{0, 4, 7}, []int{0, 7}},
		{"l7 l0 e4^ e7^ e0^ l4", nil, []int{0, 4, 7}, []int{0, 4, 7}},
		{"e2! e2! e2! e2! e2! e2!", []int{2}, []int{2}, nil},
		{"l2 l2 l2 l2 l2 e2", nil, []int{2}, []int{2}},
		{"e6 e5 l5^! e1 e1! l6", []int{1, 5}, []int{1, 5, 6}, []int{5, 6}},
	} {
		list := linesFrom(c.text)
		got, ok := impl.RaisedIrqs(list)
		wantInterrupts(t, fmt.Sprintf("RaisedIrqs(%q)", c.text), got, ok, c.raised)
		got, ok = impl.SharedIrqs(list)
		wantInterrupts(t, fmt.Sprintf("SharedIrqs(%q)", c.text), got, ok, c.shared)
		got, ok = impl.MixedIrqs(list)
		wantInterrupts(t, fmt.Sprintf("MixedIrqs(%q)", c.text), got, ok, c.mixed)
	}
}

func TestRaisedSharedAndMixedIrqsOfManyLists(t *testing.T) {
	sorted := func(list []int) []int {
		slices.Sort(list)
		return slices.Compact(list)
	}
	for _, list := range manyLines() {
		var raised, shared, mixed []int
		for i, x := range list {
			if x.Raised {
				raised = append(raised, x.Irq)
			}
			for _, y := range list[:i] {
				if x.Irq == y.Irq {
					shared = append(shared, x.Irq)
					if x.Kind != y.Kind {
						mixed = append(mixed, x.Irq)
					}
				}
			}
		}
		got, ok := impl.RaisedIrqs(list)
		wantInterrupts(t, "RaisedIrqs", got, ok, sorted(raised))
		got, ok = impl.SharedIrqs(list)
		wantInterrupts(t, "SharedIrqs", got, ok, sorted(shared))
		got, ok = impl.MixedIrqs(list)
		wantInterrupts(t, "MixedIrqs", got, ok, sorted(mixed))
	}
}

func TestTakeLines(t *testing.T) {
	for _, c := range []struct {
		text  string
		irq   int
		after string
		count int
	}{
		{"", 0, "", 0}, {"", 7, "", 0},
		{"e0!", 0, "e0", 1}, {"e0^!", 0, "e0^", 1}, {"e0^", 0, "e0^", 0}, {"e0", 0, "e0", 0},
		{"l7^!", 7, "l7^!", 1}, {"l7", 7, "l7", 0},
		// No Line leads to the interrupt.
		{"e0! l7^!", 3, "e0! l7^!", 0}, {"e0! e1!", 7, "e0! e1!", 0}, {"e6^! e1!", 7, "e6^! e1!", 0},
		{"e3^! l3^! e5^!", 3, "e3^ l3^! e5^!", 2}, {"e3^! l3^! e5^!", 5, "e3^! l3^! e5^", 1},
		{"e3! l3 e3 e3^ e3^! l3^!", 3, "e3 l3 e3 e3^ e3^ l3^!", 3},
		{"e3! e4! e3! e4! e3! e4!", 3, "e3 e4! e3 e4! e3 e4!", 3},
		{"e3! e4! e3! e4! e3! e4!", 4, "e3! e4 e3! e4 e3! e4", 3},
		{"e7! e7! e7! e7^! e7^! e7^!", 7, "e7 e7 e7 e7^ e7^ e7^", 6},
		{"l0^! l0^! l0^! l0 l0^! l0^!", 0, "l0^! l0^! l0^! l0 l0^! l0^!", 5},
		{"e1 e1^ l1", 1, "e1 e1^ l1", 0},
	} {
		got, count, ok := impl.TakeLines(linesFrom(c.text), c.irq)
		wantLines(t, fmt.Sprintf("TakeLines(%q, %d)", c.text, c.irq), got, ok, linesFrom(c.after))
		if count != c.count {
			t.Errorf("TakeLines(%q, %d) counts %d instead of %d", c.text, c.irq, count, c.count)
		}
	}
}

// Taking takes each Line to an interrupt once; what stays raised are the levels and the other interrupts.
func TestTakeLinesOfManyLists(t *testing.T) {
	for _, list := range manyLines() {
		for irq := range 8 {
			want, count := slices.Clone(list), 0
			var left []int
			for i, x := range list {
				if x.Irq == irq {
					want[i] = afterStep(x, stepTake)
				}
				if x.Irq == irq && x.Raised {
					count++
				}
				if x.Raised && (x.Irq != irq || x.Kind == impl.LineLevel) {
					left = append(left, x.Irq)
				}
			}
			slices.Sort(left)
			got, n, ok := impl.TakeLines(list, irq)
			if !ok || n != count || !slices.Equal(got, want) {
				t.Fatalf("TakeLines(%v, %d) = %v, %d, %v instead of %v, %d", list, irq, got, n, ok, want, count)
			}
			if raised, _ := impl.RaisedIrqs(got); !slices.Equal(raised, slices.Compact(left)) {
				t.Fatalf("TakeLines(%v, %d) leaves %v", list, irq, raised)
			}
		}
	}
}

// pulsed tells the state that follows from pulses of a state and how often the Line became raised.
func pulsed(state string, times int) (string, int) {
	if times == 0 {
		return state, 0
	}
	switch state {
	case "e":
		return "e!", 1
	case "e^":
		if times == 1 {
			return "e", 0
		}
		return "e!", 1
	case "l":
		return "l", times
	case "l^!":
		return "l", times - 1
	}
	return "e!", 0
}

func TestPulseLine(t *testing.T) {
	for _, state := range lineStates {
		for _, others := range lineStates {
			for times := range 101 {
				line := times % 6
				list := slices.Repeat([]impl.Line{withState(others, 7)}, 6)
				list[line] = withState(state, times%8)
				after, count := pulsed(state, times)
				want := slices.Clone(list)
				want[line] = withState(after, times%8)
				got, n, ok := impl.PulseLine(list, line, times)
				if !ok || n != count || !slices.Equal(got, want) {
					t.Fatalf("PulseLine(%v, %d, %d) = %v, %d, %v instead of %v, %d", list, line, times, got, n, ok, want, count)
				}
			}
		}
	}
}

// Pulses are the drives one after the other.
func TestPulseLineIsItsDrives(t *testing.T) {
	for i, list := range manyLines() {
		for line := range list {
			for _, times := range []int{0, 1, 2, 3, i % 101, 100} {
				want, count := slices.Clone(list), 0
				for range times {
					high, _ := impl.DriveLine(want[line], true)
					if high.Raised && !want[line].Raised {
						count++
					}
					want[line], _ = impl.DriveLine(high, false)
				}
				got, n, ok := impl.PulseLine(list, line, times)
				if !ok || n != count || !slices.Equal(got, want) {
					t.Fatalf("PulseLine(%v, %d, %d) = %v, %d, %v instead of %v, %d", list, line, times, got, n, ok, want, count)
				}
			}
		}
	}
}

// Over long sequences, every Line is raised as its whole path tells.
func TestLongSequences(t *testing.T) {
	next := numbers(77)
	for i := range 60 {
		list := make([]impl.Line, 1+i%6)
		paths := make([]string, len(list))
		for line := range list {
			list[line] = impl.Line{Kind: next(2), Irq: next(1+i%4) * 7 / 3}
		}
		for range 400 {
			list = longStep(t, list, paths, next)
			for line, x := range list {
				if x.High != highBy(paths[line]) || x.Raised != raisedBy(x.Kind, paths[line]) {
					t.Fatalf("%v after %q", x, paths[line])
				}
			}
		}
	}
}

// longStep drives all Lines, takes an interrupt or pulses a Line, and adds this to the paths.
func longStep(t *testing.T, list []impl.Line, paths []string, next func(int) int) []impl.Line {
	switch next(5) {
	case 0, 1:
		irq, raised := next(8), 0
		for line, x := range list {
			if x.Irq == irq && raisedBy(x.Kind, paths[line]) {
				raised++
			}
			if x.Irq == irq {
				paths[line] += "t"
			}
		}
		after, count, ok := impl.TakeLines(list, irq)
		if !ok || count != raised {
			t.Fatalf("TakeLines(%v, %d) = %v, %d, %v instead of %d", list, irq, after, count, ok, raised)
		}
		return after
	case 2:
		line, times, raised := next(len(list)), next(4), 0
		for range times {
			before := raisedBy(list[line].Kind, paths[line])
			paths[line] += "h"
			if raisedBy(list[line].Kind, paths[line]) && !before {
				raised++
			}
			paths[line] += "l"
		}
		after, count, ok := impl.PulseLine(list, line, times)
		if !ok || count != raised {
			t.Fatalf("PulseLine(%v, %d, %d) = %v, %d, %v instead of %d", list, line, times, after, count, ok, raised)
		}
		return after
	}
	levels := levelsFrom(len(list), next(64))
	for line, high := range levels {
		paths[line] += map[bool]string{false: "l", true: "h"}[high]
	}
	after, ok := impl.DriveLines(list, levels)
	if !ok {
		t.Fatalf("DriveLines(%v, %v) fails", list, levels)
	}
	return after
}

// callLines makes every call of lines and returns their results as a text.
func callLines(list []impl.Line, levels []bool, irq int, line int) string {
	all := []any{impl.AreLines(list)}
	add := func(values ...any) { all = append(all, values...) }
	for _, x := range list[:min(len(list), 8)] {
		high, ok := impl.DriveLine(x, irq%2 == 0)
		add(impl.IsLine(x), high, ok)
		taken, was, ok := impl.TakeLine(x)
		add(taken, was, ok)
	}
	driven, ok := impl.DriveLines(list, levels)
	add(driven, ok)
	raised, ok := impl.RaisedIrqs(list)
	add(raised, ok)
	taken, count, ok := impl.TakeLines(list, irq)
	add(taken, count, ok)
	pulsed, count, ok := impl.PulseLine(list, line, irq)
	add(pulsed, count, ok)
	shared, ok := impl.SharedIrqs(list)
	add(shared, ok)
	mixed, ok := impl.MixedIrqs(list)
	add(mixed, ok)
	return fmt.Sprint(all...)
}

// The arguments lie within longer lists, whose other elements must be neither read nor written.
func TestLineArgumentsAreNotChanged(t *testing.T) {
	odd := impl.Line{Kind: impl.LineEdge, Irq: 99, High: true, Raised: true}
	for i, list := range append(manyLines()[:1500], invalidLists()[1:]...) {
		whole := append(append([]impl.Line{odd, odd}, list...), odd, odd, odd)
		levels := levelsFrom(len(list)+4, i)
		before, levelsBefore := slices.Clone(whole), slices.Clone(levels)
		within := callLines(whole[2:2+len(list)], levels[2:2+len(list)], i%8, i%6)
		alone := callLines(slices.Clone(list), slices.Clone(levels[2:2+len(list)]), i%8, i%6)
		if within != alone {
			t.Fatalf("%v in a longer list: %s instead of %s", list, within, alone)
		}
		if !slices.Equal(whole, before) || !slices.Equal(levels, levelsBefore) {
			t.Fatalf("%v, %v became %v, %v", before, levelsBefore, whole, levels)
		}
	}
}

func TestLineResultsAreNotShared(t *testing.T) {
	odd := impl.Line{Kind: -5, Irq: -5}
	for i, list := range manyLines()[:1200] {
		lists := [][]impl.Line{append(list, odd)[:len(list)]}
		var interrupts [][]int
		for range 2 {
			same := make([]bool, len(list))
			for i, x := range list {
				same[i] = x.High
			}
			driven, _ := impl.DriveLines(lists[0], levelsFrom(len(list), i))
			asBefore, _ := impl.DriveLines(lists[0], same)
			taken, _, _ := impl.TakeLines(lists[0], i%8)
			pulsed, _, _ := impl.PulseLine(lists[0], len(list)-1, i%3)
			lists = append(lists, driven, asBefore, taken, pulsed)
			raised, _ := impl.RaisedIrqs(lists[0])
			shared, _ := impl.SharedIrqs(lists[0])
			mixed, _ := impl.MixedIrqs(lists[0])
			interrupts = append(interrupts, raised, shared, mixed)
		}
		wantNotShared(t, fmt.Sprint(list), lists, odd)
		wantNotShared(t, fmt.Sprint(list), interrupts, -5)
	}
}

// What was returned before changes nothing of what is returned later.
func TestLineCallsKeepNothing(t *testing.T) {
	list, levels := linesFrom("e3! l3^! e3^ e5 l0 e0^!"), []bool{true, false, true, true, true, false}
	want := callLines(list, levels, 3, 3)
	for i, other := range manyLines()[:300] {
		driven, _ := impl.DriveLines(list, levels)
		taken, _, _ := impl.TakeLines(list, 3)
		raised, _ := impl.RaisedIrqs(list)
		clear(driven)
		clear(taken)
		clear(raised)
		callLines(other, levelsFrom(len(other), i), i%8, i%6)
		callLines(nil, levels, -1, 6)
		if got := callLines(list, levels, 3, 3); got != want {
			t.Fatalf("the calls gave %s and now %s", want, got)
		}
	}
}
