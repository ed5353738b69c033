package tests

import (
	"math"
	"regexp"
	"slices"
	"strings"
	"testing"

	"loop.example/g00843/impl"
)

// textsOver returns all strings of at most most bytes of an alphabet, the empty one included.
func textsOver(alphabet string, most int) []string {
	all := []string{""}
	last := all
	for range most {
		var next []string
		for _, s := range last {
			for i := range len(alphabet) {
				next = append(next, s+alphabet[i:i+1])
			}
		}
		all = append(all, next...)
		last = next
	}
	return all
}

// everyByte returns a string of the bytes 0 to 255.
func everyByte() string {
	b := make([]byte, 256)
	for i := range b {
		b[i] = byte(i)
	}
	return string(b)
}

func TestFormatIntWritesDecimals(t *testing.T) {
	for _, c := range []struct {
		n    int
		want string
	}{
		{0, "0"}, {1, "1"}, {-1, "-1"}, {9, "9"}, {10, "10"}, {-12, "-12"}, {100, "100"}, {-100, "-100"}, {205, "205"},
		{99999, "99999"}, {100000, "100000"}, {-100000, "-100000"}, {123456, "123456"}, {-654321, "-654321"},
		{impl.MaxDecimal - 1, "999998"}, {impl.MaxDecimal, "999999"}, {-impl.MaxDecimal, "-999999"},
	} {
		if s, ok := impl.FormatInt(c.n); !ok || s != c.want {
			t.Errorf("FormatInt(%d) = %q, %v, want %q", c.n, s, ok, c.want)
		}
	}
}

func TestFormatIntRefusesWhatIsOutside(t *testing.T) {
	for _, n := range []int{
		impl.MaxDecimal + 1, -impl.MaxDecimal - 1, 1 << 31, -1 << 31, 1 << 32, 1<<32 + 1,
		math.MaxInt, math.MinInt, math.MinInt + 1,
	} {
		if s, ok := impl.FormatInt(n); ok || s != "" {
			t.Errorf("FormatInt(%d) = %q, %v", n, s, ok)
		}
	}
}

func TestEveryDecimalRoundTrips(t *testing.T) {
	if impl.MaxDecimal != 999999 {
		t.Error("MaxDecimal is", impl.MaxDecimal)
	}
	for n := -impl.MaxDecimal; n <= impl.MaxDecimal; n++ {
		s, ok := impl.FormatInt(n)
		m, fine := impl.ParseInt(s)
		if !ok || !fine || m != n {
			t.Fatalf("%d became %q, %v and %d, %v", n, s, ok, m, fine)
		}
	}
}

func TestParseIntAcceptsOnlyWhatFormatIntWrites(t *testing.T) {
	canonical := regexp.MustCompile(`^(0|-?[1-9][0-9]{0,5})$`)
	for _, s := range textsOver("019-+ _x\x00", 4) {
		n, ok := impl.ParseInt(s)
		if ok != canonical.MatchString(s) {
			t.Errorf("ParseInt(%q) = %d, %v", s, n, ok)
		}
		if text, fine := impl.FormatInt(n); ok && (!fine || text != s) {
			t.Errorf("ParseInt(%q) = %d, of which the text is %q", s, n, text)
		}
		if !ok && n != 0 {
			t.Errorf("ParseInt(%q) gives %d beside false", s, n)
		}
	}
}

func TestParseIntRefusesOtherTexts(t *testing.T) {
	for _, s := range []string{
		"", "-", "+", "-0", "+0", "00", "-00", "01", "-01", "007", "000000", "+1", "+999999", "--1", "-+1", "1-", "1+",
		"1000000", "-1000000", "0999999", "-0999999", "9999990",
		"9223372036854775807", "9223372036854775808", "-9223372036854775808", "18446744073709551616", "18446744073709551617",
		" 1", "1 ", "\t1", "1\n", "\n1", "1\x00", "\x001", "1.0", "1,0", "1e3", "0x1", "0b1", "0o7", "1_0", "12a", "a12", "/", ":",
		"\xef\xbc\x91", "\xd9\xa1", "\xff", strings.Repeat("0", impl.MaxString), strings.Repeat("1", 1<<20),
	} {
		if n, ok := impl.ParseInt(s); ok || n != 0 {
			t.Errorf("ParseInt(%q) = %d, %v", shown(s), n, ok)
		}
	}
}

func TestSplitString(t *testing.T) {
	for _, c := range []struct {
		s, sep string
		want   []string
	}{
		{"", ",", []string{""}},
		{",", ",", []string{"", ""}},
		{",,", ",", []string{"", "", ""}},
		{"abc", ",", []string{"abc"}},
		{"a,b", ",", []string{"a", "b"}},
		{"a,,b", ",", []string{"a", "", "b"}},
		{",a", ",", []string{"", "a"}},
		{"a,", ",", []string{"a", ""}},
		{",a,", ",", []string{"", "a", ""}},
		{"a;b,c", ";", []string{"a", "b,c"}},
		{"one two  three", " ", []string{"one", "two", "", "three"}},
		{"a\nb\n", "\n", []string{"a", "b", ""}},
		{"a\x00b", "\x00", []string{"a", "b"}},
		{"aaa", "a", []string{"", "", "", ""}},
		{"aA", "A", []string{"a", ""}},
		{"a\xffb", "\xff", []string{"a", "b"}},
		// One byte of a longer character separates as well: strings are bytes.
		{"x\xc3\xa9y", "\xa9", []string{"x\xc3", "y"}},
		{"x\xc3\xa9y", "\xc3", []string{"x", "\xa9y"}},
		{"a.b*c", "*", []string{"a.b", "c"}},
	} {
		if got, ok := impl.SplitString(c.s, c.sep); !ok || !slices.Equal(got, c.want) {
			t.Errorf("SplitString(%q, %q) = %q, %v, want %q", c.s, c.sep, got, ok, c.want)
		}
	}
}

func TestSplitStringAtEveryByte(t *testing.T) {
	s := everyByte()
	for i := range len(s) {
		got, ok := impl.SplitString(s, s[i:i+1])
		if !ok || !slices.Equal(got, []string{s[:i], s[i+1:]}) {
			t.Errorf("at the byte %d: %q, %v", i, got, ok)
		}
	}
}

func TestSplitStringLimit(t *testing.T) {
	if impl.MaxString != 4000 {
		t.Error("MaxString is", impl.MaxString)
	}
	for _, unit := range []string{"a", ","} {
		s := strings.Repeat(unit, impl.MaxString)
		got, ok := impl.SplitString(s, ",")
		if !ok || len(got) != strings.Count(s, ",")+1 || strings.Join(got, ",") != s {
			t.Errorf("%q at the limit: %d elements, %v", unit, len(got), ok)
		}
		if got, ok := impl.SplitString(s+"a", ","); ok || len(got) != 0 {
			t.Errorf("%q beyond the limit: %d elements, %v", unit, len(got), ok)
		}
	}
	if got, ok := impl.SplitString(strings.Repeat("a,", 1<<20), ","); ok || len(got) != 0 {
		t.Error("far beyond the limit:", len(got), ok)
	}
}

func TestSplitStringRefusesSeparatorsThatAreNotOneByte(t *testing.T) {
	for _, sep := range []string{"", ",,", ", ", "ab", "\xc3\xa9", "\xe2\x82\xac", strings.Repeat(",", 5000)} {
		for _, s := range []string{"", "a", "a,b", "a,,b", "a, b", "ab", sep} {
			if got, ok := impl.SplitString(s, sep); ok || len(got) != 0 {
				t.Errorf("SplitString(%q, %q) = %q, %v", shown(s), shown(sep), got, ok)
			}
		}
	}
}

func TestSplittingRoundTrips(t *testing.T) {
	for _, s := range textsOver("a,;\xff", 6) {
		for _, sep := range []string{",", ";", "a", "\xff", "-"} {
			parts, ok := impl.SplitString(s, sep)
			if !ok || len(parts) != strings.Count(s, sep)+1 {
				t.Fatalf("SplitString(%q, %q) = %q, %v", s, sep, parts, ok)
			}
			if slices.ContainsFunc(parts, func(p string) bool { return strings.Contains(p, sep) }) {
				t.Fatalf("SplitString(%q, %q) = %q leaves a separator", s, sep, parts)
			}
			if joined, ok := impl.JoinStrings(parts, sep); !ok || joined != s {
				t.Fatalf("%q became %q and %q, %v", s, parts, joined, ok)
			}
		}
	}
}

func TestJoiningRoundTrips(t *testing.T) {
	words := []string{"", "a", "ab", ";", "\xff"}
	for i := range len(words) * len(words) * len(words) {
		parts := []string{words[i%5], words[i/5%5], words[i/25]}
		for n := 1; n <= len(parts); n++ {
			joined, ok := impl.JoinStrings(parts[:n], ",")
			back, fine := impl.SplitString(joined, ",")
			if !ok || !fine || !slices.Equal(back, parts[:n]) {
				t.Fatalf("%q became %q, %v and %q, %v", parts[:n], joined, ok, back, fine)
			}
		}
	}
}

func TestJoinStrings(t *testing.T) {
	for _, c := range []struct {
		parts []string
		sep   string
		want  string
	}{
		{[]string{""}, ",", ""},
		{[]string{"a"}, ",", "a"},
		{[]string{"", ""}, ",", ","},
		{[]string{"a", "", "b"}, ";", "a;;b"},
		{[]string{"", "a", ""}, ",", ",a,"},
		{[]string{"a,b", "c"}, ";", "a,b;c"},
		{[]string{"a", "b"}, "\x00", "a\x00b"},
		{[]string{"a", "b"}, "\xff", "a\xffb"},
		{[]string{"x\xc3", "y"}, "\xa9", "x\xc3\xa9y"},
	} {
		if got, ok := impl.JoinStrings(c.parts, c.sep); !ok || got != c.want {
			t.Errorf("JoinStrings(%q, %q) = %q, %v, want %q", c.parts, c.sep, got, ok, c.want)
		}
	}
}

func TestJoinStringsRefusesSeparatorInsideAnElement(t *testing.T) {
	for _, sep := range []string{",", "a", " ", "\n", "\x00", "\xa9", "\xff"} {
		for _, element := range []string{sep, sep + "x", "x" + sep, "x" + sep + "y", sep + sep, "xyz" + sep + "xyz"} {
			for at := range 3 {
				parts := []string{"x", "", "y"}
				parts[at] = element
				if got, ok := impl.JoinStrings(parts, sep); ok || got != "" {
					t.Errorf("JoinStrings(%q, %q) = %q, %v", parts, sep, got, ok)
				}
			}
			if got, ok := impl.JoinStrings([]string{element}, sep); ok || got != "" {
				t.Errorf("JoinStrings of %q alone, %q: %q, %v", element, sep, got, ok)
			}
		}
	}
}

// A separator within a character counts, though no character is equal to it.
func TestJoinStringsRefusesByteOfCharacter(t *testing.T) {
	for _, sep := range []string{"\xc3", "\xa9"} {
		if got, ok := impl.JoinStrings([]string{"a", "caf\xc3\xa9"}, sep); ok || got != "" {
			t.Errorf("%q: %q, %v", sep, got, ok)
		}
	}
}

func TestJoinStringsRefusesInvalidArguments(t *testing.T) {
	for _, sep := range []string{"", ",", ",,"} {
		for _, none := range [][]string{nil, {}} {
			if got, ok := impl.JoinStrings(none, sep); ok || got != "" {
				t.Errorf("JoinStrings of none, %q: %q, %v", sep, got, ok)
			}
		}
	}
	for _, sep := range []string{"", ",,", ", ", "\xc3\xa9", strings.Repeat(",", 5000)} {
		for _, parts := range [][]string{{""}, {"a"}, {"a", "b"}} {
			if got, ok := impl.JoinStrings(parts, sep); ok || got != "" {
				t.Errorf("JoinStrings(%q, %q) = %q, %v", parts, shown(sep), got, ok)
			}
		}
	}
}

func TestJoinStringsLimit(t *testing.T) {
	x := func(n int) string { return strings.Repeat("x", n) }
	most := impl.MaxString
	for _, parts := range [][]string{
		{x(most)}, {x(most - 1), ""}, {"", x(most - 1)}, {x(most - 3), "y", ""}, {x(1999), x(2000)}, make([]string, most+1),
	} {
		got, ok := impl.JoinStrings(parts, ",")
		if !ok || got != strings.Join(parts, ",") || len(got) != most {
			t.Errorf("%d parts at the limit: %d bytes, %v", len(parts), len(got), ok)
		}
		for _, more := range [][]string{append([]string{""}, parts...), append(slices.Clone(parts), "")} {
			if got, ok := impl.JoinStrings(more, ","); ok || got != "" {
				t.Errorf("%d parts beyond the limit: %d bytes, %v", len(more), len(got), ok)
			}
		}
		longer := slices.Clone(parts)
		longer[0] += "x"
		if got, ok := impl.JoinStrings(longer, ","); ok || got != "" {
			t.Errorf("%d parts, one longer: %d bytes, %v", len(parts), len(got), ok)
		}
	}
	for _, parts := range [][]string{{x(1 << 20)}, make([]string, 1<<20), {x(1 << 20), ","}} {
		if got, ok := impl.JoinStrings(parts, ","); ok || got != "" {
			t.Errorf("%d parts far beyond the limit: %d bytes, %v", len(parts), len(got), ok)
		}
	}
}

func TestSlicesOfStringsAreNotShared(t *testing.T) {
	all := []string{"a", "b", "c,", "d"}
	parts := all[:2]
	if got, ok := impl.JoinStrings(parts, ","); !ok || got != "a,b" {
		t.Errorf("elements beyond the length are read: %q, %v", got, ok)
	}
	if _, ok := impl.JoinStrings(all, ","); ok {
		t.Error("separator inside an element")
	}
	if !slices.Equal(all, []string{"a", "b", "c,", "d"}) {
		t.Errorf("arguments are modified: %q", all)
	}
	first, _ := impl.SplitString("a,b", ",")
	first[0], first[1] = "x", "y"
	first = append(first, "z")
	if second, ok := impl.SplitString("a,b", ","); !ok || !slices.Equal(second, []string{"a", "b"}) {
		t.Errorf("a result depends on an earlier one: %q, %q", first, second)
	}
}

func TestLessString(t *testing.T) {
	for _, c := range []struct {
		a, b string
		want bool
	}{
		{"", "", false}, {"", "a", true}, {"a", "", false}, {"a", "a", false}, {"a", "ab", true}, {"ab", "a", false},
		{"ab", "b", true}, {"b", "ab", false}, {"a", "b", true}, {"Z", "a", true}, {"a", "Z", false}, {"10", "9", true},
		{"", "\x00", true}, {"a", "a\x00", true}, {"a\x00b", "a\x00c", true}, {"\x7f", "\x80", true}, {"\xff", "\x00", false},
		{"\xc3\xa9", "\xff", true}, {"\xff", "\xc3\xa9", false}, {"abc", "abd", true}, {"abd", "abc", false},
	} {
		if got := impl.LessString(c.a, c.b); got != c.want {
			t.Errorf("LessString(%q, %q) = %v", c.a, c.b, got)
		}
	}
	long := strings.Repeat("a", 2*impl.MaxString)
	if !impl.LessString(long, long+"a") || impl.LessString(long+"a", long) || impl.LessString(long, long) || !impl.LessString(long, "b") {
		t.Error("strings longer than MaxString")
	}
}

// lessByBytes is the definition, written out.
func lessByBytes(a, b string) bool {
	for i := 0; i < len(a) && i < len(b); i++ {
		if a[i] != b[i] {
			return a[i] < b[i]
		}
	}
	return len(a) < len(b)
}

func TestLessStringIsTheOrderOfBytes(t *testing.T) {
	texts := textsOver("\x00a\x7f\x80\xff", 3)
	for _, a := range texts {
		for _, b := range texts {
			if impl.LessString(a, b) != lessByBytes(a, b) {
				t.Errorf("LessString(%q, %q) = %v", a, b, impl.LessString(a, b))
			}
		}
	}
}

// sumOf is the definition, written out, for a string of any length.
func sumOf(s string) int {
	h := 7
	for _, c := range []byte(s) {
		h = (41*h + int(c) + 1) % 999979
	}
	return h
}

func TestChecksum(t *testing.T) {
	for _, c := range []struct {
		s    string
		want int
	}{{"", 7}, {"a", 385}, {"\x00", 288}, {"\xff", 543}, {"#", 323}, {"\xc3\xa9", 41*(287+0xc3+1) + 0xa9 + 1}} {
		if n, ok := impl.Checksum(c.s); !ok || n != c.want {
			t.Errorf("Checksum(%q) = %d, %v, want %d", c.s, n, ok, c.want)
		}
	}
	for _, s := range append(textsOver("a#\x00\xff", 5), everyByte(), strings.Repeat("\xff", impl.MaxString)) {
		if n, ok := impl.Checksum(s); !ok || n != sumOf(s) {
			t.Errorf("Checksum(%q) = %d, %v, want %d", shown(s), n, ok, sumOf(s))
		}
	}
}

func TestChecksumLimit(t *testing.T) {
	s := strings.Repeat("xyz#", impl.MaxString/4)
	if n, ok := impl.Checksum(s); !ok || n != sumOf(s) {
		t.Error("at the limit:", n, ok)
	}
	for _, s := range []string{s + "x", s + s, strings.Repeat("a", 1<<20)} {
		if n, ok := impl.Checksum(s); ok || n != 0 {
			t.Error("beyond the limit:", len(s), n, ok)
		}
	}
}

func TestChecksummedStringsRoundTrip(t *testing.T) {
	for _, c := range [][2]string{{"", "#7"}, {"a", "a#385"}, {"\x00", "\x00#288"}, {"\xff", "\xff#543"}} {
		if s, ok := impl.AppendChecksum(c[0]); !ok || s != c[1] {
			t.Errorf("AppendChecksum(%q) = %q, %v", c[0], s, ok)
		}
		if s, ok := impl.VerifyChecksum(c[1]); !ok || s != c[0] {
			t.Errorf("VerifyChecksum(%q) = %q, %v", c[1], s, ok)
		}
	}
	for _, s := range textsOver("a 0-\n\xff", 5) {
		sealed, ok := impl.AppendChecksum(s)
		opened, fine := impl.VerifyChecksum(sealed)
		text, _ := impl.FormatInt(sumOf(s))
		if !ok || !fine || opened != s || sealed != s+"#"+text {
			t.Fatalf("%q became %q, %v and %q, %v", s, sealed, ok, opened, fine)
		}
	}
}

func TestAppendChecksumRefusesMarkInside(t *testing.T) {
	for _, s := range []string{"#", "a#", "#a", "a#b", "##", "a#385", strings.Repeat("a", 3000) + "#"} {
		if got, ok := impl.AppendChecksum(s); ok || got != "" {
			t.Errorf("AppendChecksum(%q) = %q, %v", shown(s), shown(got), ok)
		}
	}
}

// withDigits returns a string of a length whose checksum has a number of digits.
func withDigits(t *testing.T, length int, digits int) string {
	for i := range 1 << 20 {
		tail := string([]byte{'a' + byte(i%26), 'a' + byte(i/26%26), 'a' + byte(i/676%26), 'a' + byte(i/17576%26)})
		s := strings.Repeat("a", length-len(tail)) + tail
		if text, _ := impl.FormatInt(sumOf(s)); len(text) == digits {
			return s
		}
	}
	t.Fatal("no string of the length", length)
	return ""
}

func TestAppendChecksumLimit(t *testing.T) {
	for digits := 4; digits <= 6; digits++ {
		room := impl.MaxString - 1 - digits
		s := withDigits(t, room, digits)
		sealed, ok := impl.AppendChecksum(s)
		if opened, fine := impl.VerifyChecksum(sealed); !ok || len(sealed) != impl.MaxString || !fine || opened != s {
			t.Error("at the limit:", digits, len(sealed), ok, len(opened), fine)
		}
		s = withDigits(t, room+1, digits)
		if sealed, ok := impl.AppendChecksum(s); ok || sealed != "" {
			t.Error("beyond the limit:", digits, len(sealed), ok)
		}
		text, _ := impl.FormatInt(sumOf(s))
		if opened, ok := impl.VerifyChecksum(s + "#" + text); ok || opened != "" {
			t.Error("verified beyond the limit:", digits, len(opened), ok)
		}
	}
	for _, n := range []int{impl.MaxString - 1, impl.MaxString, impl.MaxString + 1, 1 << 20} {
		if sealed, ok := impl.AppendChecksum(strings.Repeat("a", n)); ok || sealed != "" {
			t.Error("no room for a checksum:", n, len(sealed), ok)
		}
	}
}

func TestVerifyChecksumRefusesOtherStrings(t *testing.T) {
	for _, s := range []string{
		"", "a", "#", "##", "a#", "#a", "#0", "7", "385", "a385", "a#384", "a#386", "a#38", "a#3850", "a#0385", "a#+385", "a#-385",
		"a#385 ", "a# 385", "a#385\n", "a #385", " a#385", "b#385", "a##385", "a#385#", "a#385#1", "#a#385", "a#385a#385",
		"#07", "#+7", "#-7", "#7#7", "a#1000364", "a#0x181", "a#385\x00", strings.Repeat("#", impl.MaxString),
		strings.Repeat("a", impl.MaxString), strings.Repeat("a", 1<<20), strings.Repeat("a", 1<<20) + "#7",
	} {
		if got, ok := impl.VerifyChecksum(s); ok || got != "" {
			t.Errorf("VerifyChecksum(%q) = %q, %v", shown(s), shown(got), ok)
		}
	}
}

// A right checksum behind a string that contains the mark is one that AppendChecksum never wrote.
func TestVerifyChecksumRefusesMarkInside(t *testing.T) {
	for _, s := range []string{"#", "a#b", "a#385", "a#", "#a"} {
		text, _ := impl.FormatInt(sumOf(s))
		if got, ok := impl.VerifyChecksum(s + "#" + text); ok || got != "" {
			t.Errorf("VerifyChecksum of %q sealed = %q, %v", s, got, ok)
		}
	}
}

func TestEveryChangedByteIsDetected(t *testing.T) {
	texts := append(textsOver("a1 \x00\xff", 2),
		"12 guest 3 trap 7", "0 raise 3@ok", "-999999", "aaaa", "\x00\x00\x00", "\xff\xfe\xfd\xfc", strings.Repeat("abc", 60),
		strings.ReplaceAll(everyByte(), "#", ""))
	for _, s := range texts {
		sealed, ok := impl.AppendChecksum(s)
		if !ok {
			t.Fatalf("AppendChecksum(%q) fails", shown(s))
		}
		changed := []byte(sealed)
		for i := range changed {
			for c := range 256 {
				changed[i] = byte(c)
				got, ok := impl.VerifyChecksum(string(changed))
				if same := byte(c) == sealed[i]; ok != same || !same && got != "" {
					t.Fatalf("%q with the byte %d at %d: %q, %v", shown(sealed), c, i, shown(got), ok)
				}
			}
			changed[i] = sealed[i]
		}
	}
}

// The weight of a byte depends on its distance from the end: all distances up to the limit are tried.
func TestEveryChangedByteIsDetectedAtTheLimit(t *testing.T) {
	sealed, ok := impl.AppendChecksum(withDigits(t, impl.MaxString-7, 6))
	if !ok || len(sealed) != impl.MaxString {
		t.Fatal("not sealed", len(sealed), ok)
	}
	changed := []byte(sealed)
	for i := range changed {
		for _, d := range []byte{1, 2, 41, 128, 255, '#' - sealed[i]} {
			changed[i] = sealed[i] + d
			if got, ok := impl.VerifyChecksum(string(changed)); d != 0 && (ok || got != "") {
				t.Fatalf("changed by %d at %d: %d bytes, %v", d, i, len(got), ok)
			}
		}
		changed[i] = sealed[i]
	}
}

// Nothing is kept from call to call: a second round gives the same results, in whatever order.
func TestStringResultsDoNotDependOnEarlierCalls(t *testing.T) {
	results := func(s string) []any {
		n, ok := impl.ParseInt(s)
		sum, summed := impl.Checksum(s)
		sealed, done := impl.AppendChecksum(s)
		opened, verified := impl.VerifyChecksum(s)
		parts, split := impl.SplitString(s, ",")
		joined, fine := impl.JoinStrings([]string{s, s}, ",")
		return []any{n, ok, sum, summed, sealed, done, opened, verified, len(parts), split, joined, fine, impl.LessString(s, "a")}
	}
	texts := append(textsOver("1,#-a", 3), "a#385", strings.Repeat("a", impl.MaxString), strings.Repeat("a", impl.MaxString+1))
	var first [][]any
	for _, s := range texts {
		first = append(first, results(s))
	}
	for i := len(texts) - 1; i >= 0; i-- {
		if !slices.Equal(results(texts[i]), first[i]) {
			t.Errorf("%q: other results the second time", shown(texts[i]))
		}
	}
}
