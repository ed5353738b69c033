package tests

import (
	"fmt"
	"math"
	"slices"
	"strings"
	"testing"

	"loop.example/g00843/impl"
)

// frameMarks has the byte of each owner in the text of owners; the tests work on texts, the program on lists.
const frameMarks = ".1234"

// listFrom returns the owners with a text.
func listFrom(text string) []int {
	owners := make([]int, len(text))
	for i := range len(text) {
		owners[i] = strings.IndexByte(frameMarks, text[i])
	}
	return owners
}

// textFrom returns the text of owners.
func textFrom(owners []int) string {
	b := make([]byte, len(owners))
	for i, owner := range owners {
		b[i] = frameMarks[owner]
	}
	return string(b)
}

// frameTexts returns the texts of all owners of at most five frames, and of owners of MaxFrames frames with many patterns of free ones.
func frameTexts() []string {
	all := textsOver(frameMarks, 5)[1:]
	for pattern := 0; pattern < 1<<impl.MaxFrames; pattern += 37 {
		all = append(all, wideText(pattern))
	}
	return append(all, wideText(1<<impl.MaxFrames-1))
}

// wideText returns a text of MaxFrames frames of which those with a bit in the pattern have a guest.
func wideText(pattern int) string {
	b := make([]byte, impl.MaxFrames)
	for i := range b {
		b[i] = '.'
		if pattern>>i&1 == 1 {
			b[i] = frameMarks[1+(pattern>>(i/2)+i)&3]
		}
	}
	return string(b)
}

// framesIn returns the positions of a mark in a text.
func framesIn(text string, mark byte) []int {
	var frames []int
	for i := range len(text) {
		if text[i] == mark {
			frames = append(frames, i)
		}
	}
	return frames
}

func invalidOwners() [][]int {
	long := make([]int, impl.MaxFrames+1)
	taken := slices.Repeat([]int{1}, impl.MaxFrames+1)
	lists := [][]int{nil, {}, long, taken, make([]int, 1<<20)}
	for _, n := range []int{-1, impl.MaxGuests + 1, '.', '1', 256, 257, 1 << 32, 1<<32 + 1, math.MaxInt, math.MinInt, math.MinInt + 1} {
		lists = append(lists, []int{n}, []int{n, 0}, []int{0, n}, []int{1, n, 2}, append(make([]int, impl.MaxFrames-1), n), append([]int{n}, long[:impl.MaxFrames-1]...))
	}
	return lists
}

var invalidGuests = []int{-1, impl.MaxGuests + 1, -4, '1', 256, 257, 1 << 32, 1<<32 + 1, math.MaxInt, math.MinInt, math.MinInt + 1}

func TestAreOwnersAcceptsAllOwners(t *testing.T) {
	if impl.MaxFrames != 16 || impl.MaxGuests != 4 {
		t.Error("the limits are", impl.MaxFrames, impl.MaxGuests)
	}
	for _, text := range frameTexts() {
		if !impl.AreOwners(listFrom(text)) {
			t.Errorf("%q are no owners", text)
		}
	}
	for n := 1; n <= impl.MaxFrames; n++ {
		for owner := range impl.MaxGuests + 1 {
			if !impl.AreOwners(slices.Repeat([]int{owner}, n)) {
				t.Errorf("%d frames of %d are no owners", n, owner)
			}
		}
	}
}

func TestInvalidOwnersAreRefused(t *testing.T) {
	for _, owners := range invalidOwners() {
		name := shown(fmt.Sprint(owners))
		if impl.AreOwners(owners) {
			t.Errorf("%s: are owners", name)
		}
		for guest := 0; guest <= impl.MaxGuests; guest++ {
			for _, number := range []int{0, 1, 2, impl.MaxFrames} {
				wantFrameFailures(t, name, owners, guest, number)
			}
		}
		if from, n, ok := impl.LongestFree(owners); ok || from != 0 || n != 0 {
			t.Errorf("%s: LongestFree = %d, %d, %v", name, from, n, ok)
		}
		if moves, packed, ok := impl.CompactMoves(owners); ok || len(moves) != 0 || len(packed) != 0 {
			t.Errorf("%s: CompactMoves = %v, %v, %v", name, moves, packed, ok)
		}
		if text, ok := impl.OwnersText(owners); ok || text != "" {
			t.Errorf("%s: OwnersText = %q, %v", name, text, ok)
		}
	}
}

// wantFrameFailures makes the calls that have a guest, all of which must give zero values and false.
func wantFrameFailures(t *testing.T, name string, owners []int, guest, number int) {
	t.Helper()
	if frames, ok := impl.FramesOf(owners, guest); ok || len(frames) != 0 {
		t.Errorf("%s: FramesOf(%d) = %v, %v", name, guest, frames, ok)
	}
	wantChangeFailures(t, name, owners, guest, number)
}

// wantChangeFailures leaves out FramesOf, the only one for which 0 is a guest.
func wantChangeFailures(t *testing.T, name string, owners []int, guest, number int) {
	t.Helper()
	if got, frames, ok := impl.GrantFrames(owners, guest, number); ok || len(got) != 0 || len(frames) != 0 {
		t.Errorf("%s: GrantFrames(%d, %d) = %v, %v, %v", name, guest, number, got, frames, ok)
	}
	if got, first, ok := impl.GrantRun(owners, guest, number); ok || len(got) != 0 || first != 0 {
		t.Errorf("%s: GrantRun(%d, %d) = %v, %d, %v", name, guest, number, got, first, ok)
	}
	if got, ok := impl.TakeFrame(owners, guest, number); ok || len(got) != 0 {
		t.Errorf("%s: TakeFrame(%d, %d) = %v, %v", name, guest, number, got, ok)
	}
	if got, n, ok := impl.FreeGuest(owners, guest); ok || len(got) != 0 || n != 0 {
		t.Errorf("%s: FreeGuest(%d) = %v, %d, %v", name, guest, got, n, ok)
	}
}

func TestInvalidGuestsAreRefused(t *testing.T) {
	for _, text := range []string{".", "1", "4", "..", "1.2.3.4.", "................", "1234123412341234"} {
		owners := listFrom(text)
		for _, number := range []int{0, 1, 2, len(text) - 1} {
			for _, guest := range invalidGuests {
				wantFrameFailures(t, text, owners, guest, number)
			}
			wantChangeFailures(t, text, owners, 0, number)
		}
	}
}

func TestFramesOf(t *testing.T) {
	for _, text := range frameTexts() {
		for guest := range len(frameMarks) {
			got, ok := impl.FramesOf(listFrom(text), guest)
			if want := framesIn(text, frameMarks[guest]); !ok || !slices.Equal(got, want) {
				t.Errorf("FramesOf(%q, %d) = %v, %v, want %v", text, guest, got, ok, want)
			}
		}
	}
	if got, ok := impl.FramesOf(listFrom("1..2...1"), 3); !ok || len(got) != 0 {
		t.Error("frames of a guest without any:", got, ok)
	}
}

// Every frame is one of exactly one guest, or free.
func TestFramesArePartitioned(t *testing.T) {
	for _, text := range frameTexts() {
		seen := make([]int, len(text))
		for guest := range impl.MaxGuests + 1 {
			frames, _ := impl.FramesOf(listFrom(text), guest)
			for _, frame := range frames {
				seen[frame]++
			}
		}
		if !slices.Equal(seen, slices.Repeat([]int{1}, len(text))) {
			t.Errorf("%q: frames occur %v times", text, seen)
		}
	}
}

func TestGrantFrames(t *testing.T) {
	for _, c := range []struct {
		text  string
		guest int
		count int
		want  string
		given []int
	}{
		{".", 1, 0, ".", nil}, {".", 4, 1, "4", []int{0}}, {"1", 2, 0, "1", nil}, {"..", 1, 1, "1.", []int{0}},
		{"1..2...1", 3, 2, "1332...1", []int{1, 2}}, {"1..2...1", 3, 3, "13323..1", []int{1, 2, 4}},
		{"1..2...1", 1, 5, "11121111", []int{1, 2, 4, 5, 6}}, {"2222.", 2, 1, "22222", []int{4}},
		{"...............1", 2, 15, "2222222222222221", []int{0, 1, 2, 3, 4, 5, 6, 7, 8, 9, 10, 11, 12, 13, 14}},
		{"................", 1, 16, "1111111111111111", []int{0, 1, 2, 3, 4, 5, 6, 7, 8, 9, 10, 11, 12, 13, 14, 15}},
	} {
		got, frames, ok := impl.GrantFrames(listFrom(c.text), c.guest, c.count)
		if !ok || !slices.Equal(got, listFrom(c.want)) || !slices.Equal(frames, c.given) {
			t.Errorf("GrantFrames(%q, %d, %d) = %v, %v, %v", c.text, c.guest, c.count, got, frames, ok)
		}
	}
}

func TestGrantFramesGivesTheSmallestFreeOnes(t *testing.T) {
	for _, text := range frameTexts() {
		free := framesIn(text, '.')
		for guest := 1; guest <= impl.MaxGuests; guest++ {
			for count := 0; count <= len(free); count++ {
				got, frames, ok := impl.GrantFrames(listFrom(text), guest, count)
				want := strings.Replace(text, ".", frameMarks[guest:guest+1], count)
				if !ok || !slices.Equal(got, listFrom(want)) || !slices.Equal(frames, free[:count]) {
					t.Fatalf("GrantFrames(%q, %d, %d) = %v, %v, %v, want %q", text, guest, count, got, frames, ok, want)
				}
			}
		}
	}
}

func TestGrantFramesRefusesCounts(t *testing.T) {
	for _, text := range frameTexts() {
		free := strings.Count(text, ".")
		for _, count := range []int{free + 1, free + 2, impl.MaxFrames + 1, -1, -2, 1 << 32, math.MaxInt, math.MinInt, math.MinInt + 1} {
			if got, frames, ok := impl.GrantFrames(listFrom(text), 1, count); ok || len(got) != 0 || len(frames) != 0 {
				t.Fatalf("GrantFrames(%q, 1, %d) = %v, %v, %v", text, count, got, frames, ok)
			}
		}
	}
}

func TestGrantRun(t *testing.T) {
	for _, c := range []struct {
		text  string
		guest int
		count int
		want  string
		first int
	}{
		{".", 1, 1, "1", 0}, {"..", 4, 1, "4.", 0}, {"..", 2, 2, "22", 0}, {"1.", 1, 1, "11", 1},
		{"1..2...1", 3, 1, "13.2...1", 1}, {"1..2...1", 3, 2, "1332...1", 1}, {"1..2...1", 3, 3, "1..23331", 4},
		// The run that is long enough is at the end.
		{"1..2...", 3, 3, "1..2333", 4}, {".1..1...", 2, 3, ".1..1222", 5}, {"..............1.", 1, 14, "111111111111111.", 0},
		{"1.1.1.1.1.1.1...", 4, 3, "1.1.1.1.1.1.1444", 13}, {"111111111111111.", 2, 1, "1111111111111112", 15},
		{"................", 3, 16, "3333333333333333", 0},
	} {
		got, first, ok := impl.GrantRun(listFrom(c.text), c.guest, c.count)
		if !ok || !slices.Equal(got, listFrom(c.want)) || first != c.first {
			t.Errorf("GrantRun(%q, %d, %d) = %v, %d, %v", c.text, c.guest, c.count, got, first, ok)
		}
	}
}

func TestGrantRunGivesTheFirstRunThatIsLongEnough(t *testing.T) {
	for _, text := range frameTexts() {
		for guest := 1; guest <= impl.MaxGuests; guest++ {
			for count := 1; count <= len(text)+1; count++ {
				got, first, ok := impl.GrantRun(listFrom(text), guest, count)
				at := strings.Index(text, strings.Repeat(".", count))
				if at < 0 {
					if ok || len(got) != 0 || first != 0 {
						t.Fatalf("GrantRun(%q, %d, %d) = %v, %d, %v", text, guest, count, got, first, ok)
					}
					continue
				}
				want := text[:at] + strings.Repeat(frameMarks[guest:guest+1], count) + text[at+count:]
				if !ok || !slices.Equal(got, listFrom(want)) || first != at {
					t.Fatalf("GrantRun(%q, %d, %d) = %v, %d, %v, want %q", text, guest, count, got, first, ok, want)
				}
			}
		}
	}
}

func TestGrantRunRefusesCounts(t *testing.T) {
	for _, text := range []string{".", "1", "1.1.1", ".1", "1..2...1", "1..2...", "................", "1234123412341234"} {
		for _, count := range []int{0, -1, -2, len(text) + 1, impl.MaxFrames + 1, 1 << 32, math.MaxInt - 1, math.MaxInt, math.MinInt, math.MinInt + 1} {
			if got, first, ok := impl.GrantRun(listFrom(text), 1, count); ok || len(got) != 0 || first != 0 {
				t.Errorf("GrantRun(%q, 1, %d) = %v, %d, %v", text, count, got, first, ok)
			}
		}
	}
}

// Enough frames are free, but not one behind the other.
func TestGrantRunDoesNotJoinRuns(t *testing.T) {
	for _, c := range []struct {
		text  string
		count int
	}{{".1.", 2}, {"..1..", 3}, {"1.1.1.1.", 2}, {".......1........", 9}} {
		if got, first, ok := impl.GrantRun(listFrom(c.text), 2, c.count); ok || len(got) != 0 || first != 0 {
			t.Errorf("GrantRun(%q, 2, %d) = %v, %d, %v", c.text, c.count, got, first, ok)
		}
	}
}

func TestTakeFrame(t *testing.T) {
	for _, text := range frameTexts() {
		for guest := 1; guest <= impl.MaxGuests; guest++ {
			for frame := range len(text) {
				got, ok := impl.TakeFrame(listFrom(text), guest, frame)
				if text[frame] != frameMarks[guest] {
					if ok || len(got) != 0 {
						t.Fatalf("TakeFrame(%q, %d, %d) = %v, %v", text, guest, frame, got, ok)
					}
					continue
				}
				if want := text[:frame] + "." + text[frame+1:]; !ok || !slices.Equal(got, listFrom(want)) {
					t.Fatalf("TakeFrame(%q, %d, %d) = %v, %v, want %q", text, guest, frame, got, ok, want)
				}
			}
		}
	}
}

func TestTakeFrameRefusesFramesThatAreNotThere(t *testing.T) {
	for _, text := range []string{"1", "11", "1..2...1", "1111111111111111"} {
		// Elements beyond the length are no frames.
		owners := slices.Repeat(listFrom(text), 2)[:len(text)]
		for _, frame := range []int{-1, -2, len(text), len(text) + 1, impl.MaxFrames, 1 << 32, math.MaxInt, math.MinInt} {
			if got, ok := impl.TakeFrame(owners, 1, frame); ok || len(got) != 0 {
				t.Errorf("TakeFrame(%q, 1, %d) = %v, %v", text, frame, got, ok)
			}
		}
	}
}

func TestLongestFree(t *testing.T) {
	for _, c := range []struct {
		text        string
		from, count int
	}{
		{".", 0, 1}, {"1.", 1, 1}, {".1", 0, 1}, {"1..2...1", 4, 3}, {"1..2...", 4, 3},
		// Several runs are equally long.
		{".1.", 0, 1}, {"1.2.3.4", 1, 1}, {"..1..", 0, 2}, {".1..1..", 2, 2}, {"1.......2.......", 1, 7},
		{"................", 0, 16}, {"111111111111111.", 15, 1}, {"1.1.1.1.1.1.11..", 14, 2},
	} {
		if from, n, ok := impl.LongestFree(listFrom(c.text)); !ok || from != c.from || n != c.count {
			t.Errorf("LongestFree(%q) = %d, %d, %v", c.text, from, n, ok)
		}
	}
	for _, text := range frameTexts() {
		want, at := len(text), -1
		for at < 0 {
			if at = strings.Index(text, strings.Repeat(".", want)); at < 0 {
				want--
			}
		}
		from, n, ok := impl.LongestFree(listFrom(text))
		if ok != (want > 0) || from != at || n != want {
			t.Fatalf("LongestFree(%q) = %d, %d, %v, want %d, %d", text, from, n, ok, at, want)
		}
	}
}

func TestNoFrameIsFree(t *testing.T) {
	for _, text := range []string{"1", "4", "12", "44", "1234123412341234", "2222222222222222"} {
		owners := listFrom(text)
		if from, n, ok := impl.LongestFree(owners); ok || from != 0 || n != 0 {
			t.Errorf("LongestFree(%q) = %d, %d, %v", text, from, n, ok)
		}
		if frames, ok := impl.FramesOf(owners, 0); !ok || len(frames) != 0 {
			t.Errorf("FramesOf(%q, 0) = %v, %v", text, frames, ok)
		}
		if got, frames, ok := impl.GrantFrames(owners, 1, 0); !ok || !slices.Equal(got, owners) || len(frames) != 0 {
			t.Errorf("GrantFrames(%q, 1, 0) = %v, %v, %v", text, got, frames, ok)
		}
		if got, first, ok := impl.GrantRun(owners, 1, 1); ok || len(got) != 0 || first != 0 {
			t.Errorf("GrantRun(%q, 1, 1) = %v, %d, %v", text, got, first, ok)
		}
		if moves, packed, ok := impl.CompactMoves(owners); !ok || len(moves) != 0 || !slices.Equal(packed, owners) {
			t.Errorf("CompactMoves(%q) = %v, %v, %v", text, moves, packed, ok)
		}
	}
}

func TestFreeGuest(t *testing.T) {
	for _, text := range frameTexts() {
		for guest := 1; guest <= impl.MaxGuests; guest++ {
			mark := frameMarks[guest : guest+1]
			got, n, ok := impl.FreeGuest(listFrom(text), guest)
			want := strings.ReplaceAll(text, mark, ".")
			if !ok || !slices.Equal(got, listFrom(want)) || n != strings.Count(text, mark) {
				t.Fatalf("FreeGuest(%q, %d) = %v, %d, %v, want %q", text, guest, got, n, ok, want)
			}
		}
	}
	if got, n, ok := impl.FreeGuest(listFrom("1..2"), 4); !ok || n != 0 || !slices.Equal(got, listFrom("1..2")) {
		t.Error("a guest without frames:", got, n, ok)
	}
}

func TestCompactMoves(t *testing.T) {
	for _, c := range []struct {
		text  string
		moves [][2]int
		want  string
	}{
		{".", nil, "."}, {"1", nil, "1"}, {"1.", nil, "1."}, {".1", [][2]int{{1, 0}}, "1."}, {"12..", nil, "12.."},
		{"1..2...1", [][2]int{{7, 1}, {3, 2}}, "112....."}, {"..12", [][2]int{{3, 0}, {2, 1}}, "21.."},
		{".1.2.3.4", [][2]int{{7, 0}, {5, 2}}, "4132...."}, {"................", nil, "................"},
		{"1234123412341234", nil, "1234123412341234"}, {"...............3", [][2]int{{15, 0}}, "3..............."},
		{".111111111111112", [][2]int{{15, 0}}, "211111111111111."},
		{"........12341234", [][2]int{{15, 0}, {14, 1}, {13, 2}, {12, 3}, {11, 4}, {10, 5}, {9, 6}, {8, 7}}, "43214321........"},
	} {
		moves, packed, ok := impl.CompactMoves(listFrom(c.text))
		if !ok || !slices.Equal(moves, c.moves) || !slices.Equal(packed, listFrom(c.want)) {
			t.Errorf("CompactMoves(%q) = %v, %v, %v", c.text, moves, packed, ok)
		}
	}
}

func TestCompactMovesStepByStep(t *testing.T) {
	for _, text := range frameTexts() {
		var want [][2]int
		b := []byte(text)
		for {
			from, to := strings.LastIndexAny(string(b), frameMarks[1:]), strings.IndexByte(string(b), '.')
			if to < 0 || to > from {
				break
			}
			b[to], b[from] = b[from], '.'
			want = append(want, [2]int{from, to})
		}
		moves, packed, ok := impl.CompactMoves(listFrom(text))
		if !ok || !slices.Equal(moves, want) || !slices.Equal(packed, listFrom(string(b))) {
			t.Fatalf("CompactMoves(%q) = %v, %v, %v, want %v, %q", text, moves, packed, ok, want, b)
		}
		if strings.Contains(strings.TrimRight(textFrom(packed), "."), ".") {
			t.Fatalf("CompactMoves(%q) leaves the gaps of %v", text, packed)
		}
		for guest := range len(frameMarks) {
			if mark := frameMarks[guest : guest+1]; strings.Count(text, mark) != strings.Count(textFrom(packed), mark) {
				t.Fatalf("CompactMoves(%q) loses or makes up frames: %v", text, packed)
			}
		}
		if again, same, ok := impl.CompactMoves(packed); !ok || len(again) != 0 || !slices.Equal(same, packed) {
			t.Fatalf("CompactMoves of %v = %v, %v, %v", packed, again, same, ok)
		}
	}
}

func TestOwnersRoundTrip(t *testing.T) {
	for _, want := range frameTexts() {
		text, ok := impl.OwnersText(listFrom(want))
		owners, fine := impl.ParseOwners(text)
		if !ok || text != want || !fine || !slices.Equal(owners, listFrom(want)) {
			t.Fatalf("%q became %q, %v and %v, %v", want, text, ok, owners, fine)
		}
	}
}

func TestParseOwnersAcceptsOnlyMarks(t *testing.T) {
	for _, frame := range []string{"?", "?.", ".?", "1?2", "...............?", "?234123412341234"} {
		for c := range 256 {
			text := strings.Replace(frame, "?", string([]byte{byte(c)}), 1)
			owners, ok := impl.ParseOwners(text)
			valid := strings.IndexByte(frameMarks, byte(c)) >= 0
			if ok != valid || !valid && len(owners) != 0 || valid && !slices.Equal(owners, listFrom(text)) {
				t.Errorf("ParseOwners(%q) = %v, %v", text, owners, ok)
			}
		}
	}
}

func TestParseOwnersRefusesOtherTexts(t *testing.T) {
	for _, s := range []string{
		"", "0", "5", "-", " ", "1 2", "1,2", "1\n", " 1", "1 ", "\x00", "\x01", "\x04", "\xff", "a", "-1", "1.0", ".................",
		"11111111111111111", "1..............1.", "\xc2\xb9", "\xef\xbc\x91", "\xe2\x80\xa6", strings.Repeat(".", 256), strings.Repeat("1", 1<<20),
	} {
		if owners, ok := impl.ParseOwners(s); ok || len(owners) != 0 {
			t.Errorf("ParseOwners(%q) = %v, %v", shown(s), owners, ok)
		}
	}
}

// A long run of calls, each of which is made on the owners that the one before returned, is compared with a record of who owns what.
func TestNoFrameIsLostOrMadeUp(t *testing.T) {
	for size := 1; size <= impl.MaxFrames; size++ {
		owners, record := make([]int, size), make([]int, size)
		next := numbers(7 * size)
		for step := range 400 {
			guest := 1 + next(impl.MaxGuests)
			switch next(5) {
			case 0:
				if got, frames, ok := impl.GrantFrames(owners, guest, next(4)); ok {
					owners = got
					for _, frame := range frames {
						give(t, record, frame, guest)
					}
				}
			case 1:
				count := 1 + next(3)
				if got, first, ok := impl.GrantRun(owners, guest, count); ok {
					owners = got
					for i := range count {
						give(t, record, first+i, guest)
					}
				}
			case 2:
				frame := next(size)
				if got, ok := impl.TakeFrame(owners, guest, frame); ok {
					owners, record[frame] = got, 0
				}
			case 3:
				if got, n, ok := impl.FreeGuest(owners, guest); ok && n < 4 {
					owners = got
					for i := range record {
						if record[i] == guest {
							record[i] = 0
						}
					}
				}
			case 4:
				moves, got, _ := impl.CompactMoves(owners)
				owners = got
				for _, move := range moves {
					give(t, record, move[1], record[move[0]])
					record[move[0]] = 0
				}
			}
			if !slices.Equal(owners, record) {
				t.Fatalf("%d frames, step %d: %v, want %v", size, step, owners, record)
			}
		}
	}
}

// give records that a frame, which must be free, belongs to a guest.
func give(t *testing.T, record []int, frame, guest int) {
	t.Helper()
	if record[frame] != 0 {
		t.Errorf("the frame %d of guest %d is given to guest %d", frame, record[frame], guest)
	}
	record[frame] = guest
}

// frameCalls has a call of each function that returns lists, with these lists.
var frameCalls = map[string]func(owners []int) [][]int{
	"FramesOf free": func(owners []int) [][]int {
		frames, _ := impl.FramesOf(owners, 0)
		return [][]int{frames}
	},
	"FramesOf": func(owners []int) [][]int {
		frames, _ := impl.FramesOf(owners, 1)
		return [][]int{frames}
	},
	"GrantFrames none": func(owners []int) [][]int {
		got, frames, _ := impl.GrantFrames(owners, 3, 0)
		return [][]int{got, frames}
	},
	"GrantFrames": func(owners []int) [][]int {
		got, frames, _ := impl.GrantFrames(owners, 3, 2)
		return [][]int{got, frames}
	},
	"GrantRun": func(owners []int) [][]int {
		got, _, _ := impl.GrantRun(owners, 3, 2)
		return [][]int{got}
	},
	"TakeFrame": func(owners []int) [][]int {
		got, _ := impl.TakeFrame(owners, 1, 0)
		return [][]int{got}
	},
	"FreeGuest": func(owners []int) [][]int {
		got, _, _ := impl.FreeGuest(owners, 1)
		return [][]int{got}
	},
	"FreeGuest none": func(owners []int) [][]int {
		got, _, _ := impl.FreeGuest(owners, 4)
		return [][]int{got}
	},
	"CompactMoves": func(owners []int) [][]int {
		_, packed, _ := impl.CompactMoves(owners)
		return [][]int{packed}
	},
	"CompactMoves none": func(owners []int) [][]int {
		_, packed, _ := impl.CompactMoves(owners)
		_, same, _ := impl.CompactMoves(packed)
		return [][]int{packed, same}
	},
	"ParseOwners": func(owners []int) [][]int {
		text, _ := impl.OwnersText(owners)
		got, _ := impl.ParseOwners(text)
		return [][]int{got}
	},
}

// The owners lie within a longer list, whose other elements are no owners and must be neither read nor written.
func TestFrameArgumentsAreNotChanged(t *testing.T) {
	for _, text := range []string{"1..2...1", "1.", "12..", "1............2.."} {
		whole := slices.Concat([]int{-7, -8}, listFrom(text), []int{0, 9, -9, 0})
		before := slices.Clone(whole)
		owners := whole[2 : 2+len(text)]
		for name, call := range frameCalls {
			lists := call(owners)
			impl.AreOwners(owners)
			impl.LongestFree(owners)
			if !slices.Equal(whole, before) {
				t.Fatalf("%s(%q) changes its argument: %v", name, text, whole)
			}
			alone := call(slices.Clip(listFrom(text)))
			for i := range lists {
				if !slices.Equal(lists[i], alone[i]) {
					t.Errorf("%s(%q) reads beyond the length: %v, %v", name, text, lists[i], alone[i])
				}
			}
		}
		if from, n, ok := impl.LongestFree(owners); !ok || from+n > len(text) {
			t.Errorf("LongestFree(%q) = %d, %d, %v", text, from, n, ok)
		}
	}
}

func TestFrameResultsAreNotShared(t *testing.T) {
	for _, text := range []string{"1..2...1", "1..", "12..", "1............2.."} {
		for name, call := range frameCalls {
			owners := append(listFrom(text), 9, 9, 9)
			lists := append(call(owners[:len(text)]), call(owners[:len(text)])...)
			wantNotShared(t, name+" "+text, append(lists, owners), -5)
		}
	}
}

func TestMovesAreNotShared(t *testing.T) {
	first, _, _ := impl.CompactMoves(listFrom("1..2...1"))
	first[0], first[1] = [2]int{-5, -5}, [2]int{-5, -5}
	if second, _, ok := impl.CompactMoves(listFrom("1..2...1")); !ok || !slices.Equal(second, [][2]int{{7, 1}, {3, 2}}) {
		t.Error("a result depends on an earlier one:", second, ok)
	}
}
