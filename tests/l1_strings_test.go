package tests

import (
	"bytes"
	"math"
	"slices"
	"strconv"
	"strings"
	"testing"
	"unsafe"

	"loop.example/g01023/impl"
)

// textsOver returns all texts of at most length letters of an alphabet.
func textsOver(alphabet string, length int) []string {
	texts := []string{""}
	last := texts
	for range length {
		var next []string
		for _, text := range last {
			for i := range len(alphabet) {
				next = append(next, text+alphabet[i:i+1])
			}
		}
		texts = append(texts, next...)
		last = next
	}
	return texts
}

// oddTexts returns texts that a careless function takes wrongly, or panics on.
func oddTexts() []string {
	return []string{
		"", " ", "#", "##", ",", ",,", "\x00", "\xff", "\xc3\xa9", "a\xff,b", "#7", "#07", "#-7", "7#", "a#385", "a#385 ",
		"-", "+", "-0", "+1", "0x1", "1_0", "1e3", "99999999999999999999", "-9223372036854775808",
		strings.Repeat("9", 5000), strings.Repeat("0", 5000), strings.Repeat("a", impl.MaxString),
		strings.Repeat("a", impl.MaxString+1), strings.Repeat(",", impl.MaxString), strings.Repeat("#", impl.MaxString+1),
	}
}

func TestConstants(t *testing.T) {
	if impl.MaxString != 4000 || impl.MaxDecimal != 999999 {
		t.Error("limits", impl.MaxString, impl.MaxDecimal)
	}
}

func TestDecimalsRoundTrip(t *testing.T) {
	for n := -impl.MaxDecimal; n <= impl.MaxDecimal; n++ {
		text, ok := impl.FormatInt(n)
		if !ok || text != strconv.Itoa(n) {
			t.Fatalf("FormatInt(%d) = %q, %v", n, text, ok)
		}
		if back, ok := impl.ParseInt(text); !ok || back != n {
			t.Fatalf("ParseInt(%q) = %d, %v", text, back, ok)
		}
	}
}

func TestFormatIntBeyondLimit(t *testing.T) {
	for _, n := range []int{impl.MaxDecimal + 1, -impl.MaxDecimal - 1, 1 << 32, math.MaxInt, math.MinInt, math.MinInt + 1} {
		if text, ok := impl.FormatInt(n); ok || text != "" {
			t.Errorf("FormatInt(%d) = %q, %v", n, text, ok)
		}
	}
}

func TestParseIntRefuses(t *testing.T) {
	invalid := []string{
		"", "-", "+", "-0", "+0", "+1", "00", "01", "-01", "--1", "1-", "-+1", " 1", "1 ", "1\n", "1\x00", "1.0", "1,0",
		"1_000", "0x10", "0b1", "1e3", "a", "1a", "a1", "1000000", "-1000000", "0999999", "4294967297",
		"9223372036854775807", "9223372036854775808", "-9223372036854775808", "18446744073709551617",
		"\xd9\xa1", "\xef\xbc\x91", "\xff", strings.Repeat("9", 100000), strings.Repeat("0", 100000) + "1",
	}
	for _, text := range invalid {
		if n, ok := impl.ParseInt(text); ok || n != 0 {
			t.Errorf("ParseInt(%.20q) = %d, %v", text, n, ok)
		}
	}
}

// Of all short texts, ParseInt takes exactly those that FormatInt makes.
func TestParseIntTakesOnlyFormattedNumbers(t *testing.T) {
	taken := 0
	for _, text := range textsOver("0123459-+ _x", 4) {
		n, ok := impl.ParseInt(text)
		if !ok {
			if n != 0 {
				t.Errorf("ParseInt(%q) = %d, false", text, n)
			}
			continue
		}
		taken++
		if back, fine := impl.FormatInt(n); !fine || back != text {
			t.Errorf("ParseInt(%q) = %d, which is %q", text, n, back)
		}
	}
	// With seven digits, 7 texts have one, 6*7, 6*7*7 and 6*7*7*7 have more; negative ones begin with another digit than 0.
	if want := 7 + 42 + 294 + 2058 + 6 + 42 + 294; taken != want {
		t.Errorf("%d texts are numbers, not %d", taken, want)
	}
}

func TestSplitString(t *testing.T) {
	cases := []struct {
		text, sep string
		want      []string
	}{
		{"a,,b", ",", []string{"a", "", "b"}},
		{"", ",", []string{""}},
		{",", ",", []string{"", ""}},
		{",a", ",", []string{"", "a"}},
		{"a,", ",", []string{"a", ""}},
		{"abc", ",", []string{"abc"}},
		{"a;b,c", ";", []string{"a", "b,c"}},
		{"a\x00b", "\x00", []string{"a", "b"}},
		{"\xc3\xa9", "\xa9", []string{"\xc3", ""}},
		{"\xff\xfe\xff", "\xff", []string{"", "\xfe", ""}},
		{"\xc3\xa9,\xff", ",", []string{"\xc3\xa9", "\xff"}},
	}
	for _, c := range cases {
		if parts, ok := impl.SplitString(c.text, c.sep); !ok || !slices.Equal(parts, c.want) {
			t.Errorf("SplitString(%q, %q) = %q, %v", c.text, c.sep, parts, ok)
		}
	}
}

func TestSplitStringLimits(t *testing.T) {
	for _, letter := range []string{"a", ","} {
		most := strings.Repeat(letter, impl.MaxString)
		want := strings.Count(most, ",") + 1
		if parts, ok := impl.SplitString(most, ","); !ok || len(parts) != want || strings.Join(parts, ",") != most {
			t.Errorf("%d times %q is split into %d parts, %v", len(most), letter, len(parts), ok)
		}
		if parts, ok := impl.SplitString(most+letter, ","); ok || len(parts) != 0 {
			t.Errorf("%d times %q is split into %d parts, %v", len(most)+1, letter, len(parts), ok)
		}
	}
	for _, sep := range []string{"", ",,", ", ", "\xc3\xa9", strings.Repeat(",", 5000)} {
		for _, text := range []string{"", "a", "a,,b"} {
			if parts, ok := impl.SplitString(text, sep); ok || len(parts) != 0 {
				t.Errorf("SplitString(%q, %.20q) = %q, %v", text, sep, parts, ok)
			}
		}
	}
}

func TestJoinStrings(t *testing.T) {
	cases := []struct {
		parts []string
		sep   string
		want  string
	}{
		{[]string{"a", "", "b"}, ";", "a;;b"},
		{[]string{""}, ",", ""},
		{[]string{"", ""}, ",", ","},
		{[]string{"abc"}, ",", "abc"},
		{[]string{"a;b", "c"}, ",", "a;b,c"},
		{[]string{"\xc3", ""}, "\xa9", "\xc3\xa9"},
		{[]string{"", "\xfe", ""}, "\xff", "\xff\xfe\xff"},
		{[]string{"\x00"}, ",", "\x00"},
	}
	for _, c := range cases {
		given := slices.Clone(c.parts)
		if text, ok := impl.JoinStrings(c.parts, c.sep); !ok || text != c.want {
			t.Errorf("JoinStrings(%q, %q) = %q, %v", c.parts, c.sep, text, ok)
		}
		if !slices.Equal(given, c.parts) {
			t.Errorf("JoinStrings has changed %q to %q", given, c.parts)
		}
	}
}

func TestJoinStringsRefuses(t *testing.T) {
	cases := []struct {
		parts []string
		sep   string
	}{
		{nil, ","}, {[]string{}, ","}, {nil, ""},
		{[]string{"a", "b"}, ""}, {[]string{"a", "b"}, ",,"}, {[]string{"a"}, ""}, {[]string{"a"}, ", "}, {[]string{"a"}, "\xc3\xa9"},
		{[]string{","}, ","}, {[]string{"a,b"}, ","}, {[]string{",a", "b"}, ","}, {[]string{"a", "b,"}, ","},
		{[]string{"a", "b", "c,c"}, ","}, {[]string{"a", ",", "c"}, ","}, {[]string{"\xc3\xa9", "b"}, "\xa9"}, {[]string{"\x00"}, "\x00"},
	}
	for _, c := range cases {
		if text, ok := impl.JoinStrings(c.parts, c.sep); ok || text != "" {
			t.Errorf("JoinStrings(%q, %q) = %q, %v", c.parts, c.sep, text, ok)
		}
	}
}

func TestJoinStringsLimits(t *testing.T) {
	half := strings.Repeat("a", impl.MaxString/2)
	fitting := [][]string{
		{half + half}, {half, half[1:]}, {half, "", half[2:]}, {half + half[1:], ""}, {"", half + half[1:]}, make([]string, impl.MaxString+1),
	}
	for _, parts := range fitting {
		want := strings.Join(parts, ",")
		if text, ok := impl.JoinStrings(parts, ","); !ok || len(text) != impl.MaxString || text != want {
			t.Errorf("%d parts are joined to %d bytes, %v", len(parts), len(text), ok)
		}
	}
	exceeding := [][]string{
		{half + half + "a"}, {half, half}, {half, "", half[1:]}, {half + half, ""}, {"", half + half}, make([]string, impl.MaxString+2),
		{half, half, half}, make([]string, 100000),
	}
	for _, parts := range exceeding {
		if text, ok := impl.JoinStrings(parts, ","); ok || text != "" {
			t.Errorf("%d parts are joined to %d bytes, %v", len(parts), len(text), ok)
		}
	}
}

func TestSplittingRoundTrips(t *testing.T) {
	for _, text := range textsOver("a,;\xff\x00", 5) {
		for _, sep := range []string{",", ";", "\xff", "\x00", "b"} {
			parts, ok := impl.SplitString(text, sep)
			if !ok || len(parts) != strings.Count(text, sep)+1 {
				t.Fatalf("SplitString(%q, %q) = %q, %v", text, sep, parts, ok)
			}
			if back, ok := impl.JoinStrings(parts, sep); !ok || back != text {
				t.Fatalf("%q is joined to %q, %v, not to %q", parts, back, ok, text)
			}
		}
	}
	elements := textsOver("a;\xff", 2)
	for _, a := range elements {
		for _, b := range elements {
			for _, c := range elements {
				parts := []string{a, b, c}
				text, ok := impl.JoinStrings(parts, ",")
				if !ok {
					t.Fatalf("%q is not joined", parts)
				}
				if back, ok := impl.SplitString(text, ","); !ok || !slices.Equal(back, parts) {
					t.Fatalf("%q is split into %q, %v, not into %q", text, back, ok, parts)
				}
			}
		}
	}
}

// Elements beyond the length of a slice are no elements, and stay as they are.
func TestJoinStringsReadsOnlyItsElements(t *testing.T) {
	whole := []string{"a", "b", "c,c", "d"}
	if text, ok := impl.JoinStrings(whole[:2], ","); !ok || text != "a,b" {
		t.Errorf("joined: %q, %v", text, ok)
	}
	if want := []string{"a", "b", "c,c", "d"}; !slices.Equal(whole, want) {
		t.Errorf("changed to %q", whole)
	}
}

func TestSplitResultsAreSeparate(t *testing.T) {
	first, _ := impl.SplitString("a,b", ",")
	second, _ := impl.SplitString("a,b", ",")
	first[0] = "x"
	_ = append(first[:1], "y")
	if want := []string{"a", "b"}; !slices.Equal(second, want) {
		t.Errorf("the second result has become %q", second)
	}
}

func TestStringResultsShareNoMemory(t *testing.T) {
	text := strings.Repeat("a", 20)
	parts, _ := impl.SplitString(text, ",")
	joined, _ := impl.JoinStrings([]string{text}, ",")
	sealed, _ := impl.AppendChecksum(text)
	opened, _ := impl.VerifyChecksum(sealed)
	if unsafe.StringData(parts[0]) == unsafe.StringData(text) || unsafe.StringData(joined) == unsafe.StringData(text) {
		t.Error("a part or a joined text shares the memory of its argument")
	}
	if unsafe.StringData(sealed) == unsafe.StringData(text) || unsafe.StringData(opened) == unsafe.StringData(sealed) {
		t.Error("a sealed or an opened text shares the memory of its argument")
	}
}

func TestLessString(t *testing.T) {
	ascending := []string{"", "\x00", "\x00\x00", " ", "#", "0", "10", "9", "A", "Z", "a", "a\x00", "aa", "ab", "b", "ba", "\x7f", "\x80", "\xc3\xa9", "\xff", "\xff\x00"}
	for i, a := range ascending {
		for j, b := range ascending {
			if less := impl.LessString(a, b); less != (i < j) {
				t.Errorf("LessString(%q, %q) = %v", a, b, less)
			}
		}
	}
	texts := append(textsOver("ab\x80\xff", 4), oddTexts()...)
	for _, a := range texts {
		for _, b := range texts {
			if less := impl.LessString(a, b); less != (bytes.Compare([]byte(a), []byte(b)) < 0) {
				t.Fatalf("LessString(%.20q, %.20q) = %v", a, b, less)
			}
		}
	}
}

func TestChecksum(t *testing.T) {
	// Each is 41 times the one before, plus the byte, plus 1, modulo 999979.
	sums := map[string]int{"": 7, "a": 385, "ab": 15884, "abc": 651344, "abcd": 705751, "#": 323, "\x00": 288, "\xff": 543, "\x00\x00": 11809, "\xff\xff": 22519}
	for text, want := range sums {
		if h, ok := impl.Checksum(text); !ok || h != want {
			t.Errorf("Checksum(%q) = %d, %v", text, h, ok)
		}
	}
}

// One byte more changes a checksum as the document says, up to the limit.
func TestChecksumStepByStep(t *testing.T) {
	text := make([]byte, 0, impl.MaxString+1)
	want := 7
	for i := range impl.MaxString {
		c := byte(255 - i*37%256)
		text = append(text, c)
		want = (41*want + int(c) + 1) % 999979
		if h, ok := impl.Checksum(string(text)); !ok || h != want {
			t.Fatalf("the checksum of %d bytes is %d, %v, not %d", len(text), h, ok, want)
		}
	}
	if h, ok := impl.Checksum(string(append(text, 'a'))); ok || h != 0 {
		t.Errorf("the checksum of %d bytes is %d, %v", len(text)+1, h, ok)
	}
}

func TestAppendChecksum(t *testing.T) {
	for text, want := range map[string]string{"": "#7", "a": "a#385", "ab": "ab#15884", "abc": "abc#651344", "\xff": "\xff#543", "a,b 1": "a,b 1#" + sumOf("a,b 1")} {
		if sealed, ok := impl.AppendChecksum(text); !ok || sealed != want {
			t.Errorf("AppendChecksum(%q) = %q, %v", text, sealed, ok)
		}
		if back, ok := impl.VerifyChecksum(want); !ok || back != text {
			t.Errorf("VerifyChecksum(%q) = %q, %v", want, back, ok)
		}
	}
	for _, text := range []string{"#", "#7", "a#", "#a", "a#b", "a#385", "##", strings.Repeat("a", 3000) + "#"} {
		if sealed, ok := impl.AppendChecksum(text); ok || sealed != "" {
			t.Errorf("AppendChecksum(%.20q) = %.20q, %v", text, sealed, ok)
		}
	}
}

// sumOf returns the checksum of a text by the document's rule, in decimal.
func sumOf(text string) string {
	h := 7
	for _, c := range []byte(text) {
		h = (41*h + int(c) + 1) % 999979
	}
	return strconv.Itoa(h)
}

// Texts about the limit are sealed, and opened again, if and only if the result has at most MaxString bytes.
func TestAppendChecksumLimits(t *testing.T) {
	met, exceeded := false, false
	for length := impl.MaxString - 10; length <= impl.MaxString+2; length++ {
		for letter := byte('a'); letter <= 'z'; letter++ {
			text := strings.Repeat(string(letter), length)
			want := text + "#" + sumOf(text)
			met = met || len(want) == impl.MaxString
			exceeded = exceeded || len(want) == impl.MaxString+1
			fits := len(want) <= impl.MaxString
			sealed, ok := impl.AppendChecksum(text)
			if ok != fits || ok && sealed != want || !ok && sealed != "" {
				t.Errorf("%d times %c is sealed to %d bytes, %v", length, letter, len(sealed), ok)
			}
			back, ok := impl.VerifyChecksum(want)
			if ok != fits || ok && back != text || !ok && back != "" {
				t.Errorf("%d bytes of %c are opened to %d bytes, %v", len(want), letter, len(back), ok)
			}
		}
	}
	if !met || !exceeded {
		t.Error("no text meets the limit, or none exceeds it by one")
	}
}

func TestVerifyChecksumRefuses(t *testing.T) {
	for _, s := range []string{
		"", "a", "#", "7", "#6", "#8", "#07", "#+7", "#-7", "# 7", "#7 ", "#7#", "##7", "#7#7", "a#", "a#384", "a#386", "a#0385", "a#+385",
		"a#385#", "a#385#1", "a#1000364", "b#385", "A#385", "aa#385", "#385", "385#a", "a385", "a#385\n", "a##385", "#a#385", "a#3850", "a#38",
	} {
		if text, ok := impl.VerifyChecksum(s); ok || text != "" {
			t.Errorf("VerifyChecksum(%q) = %q, %v", s, text, ok)
		}
	}
	// The last checksum is right but for an earlier mark, which no sealed text has.
	if text, ok := impl.VerifyChecksum("a#1#" + sumOf("a#1")); ok || text != "" {
		t.Errorf("a text with two marks is opened to %q, %v", text, ok)
	}
}

func TestAnyChangedByteIsDetected(t *testing.T) {
	texts := append(textsOver("a1-", 2), "carpet 12, of wool", "\x00\xff\xfe", strings.Repeat("\xff", 40), "385", "-0", "0")
	for _, text := range texts {
		sealed, ok := impl.AppendChecksum(text)
		if !ok {
			t.Fatalf("%q is not sealed", text)
		}
		if back, ok := impl.VerifyChecksum(sealed); !ok || back != text {
			t.Fatalf("VerifyChecksum(%q) = %q, %v", sealed, back, ok)
		}
		for i := range len(sealed) {
			for c := range 256 {
				changed := sealed[:i] + string([]byte{byte(c)}) + sealed[i+1:]
				if changed == sealed {
					continue
				}
				if back, ok := impl.VerifyChecksum(changed); ok || back != "" {
					t.Fatalf("%q is opened to %q, %v, though %q was sealed", changed, back, ok, sealed)
				}
			}
		}
	}
}

func TestChangedByteOfLongTextIsDetected(t *testing.T) {
	sealed, ok := impl.AppendChecksum(strings.Repeat("knot row ", 400))
	if !ok {
		t.Fatal("the long text is not sealed")
	}
	for i := range len(sealed) {
		for _, flip := range []byte{1, 16, 128, 255} {
			changed := []byte(sealed)
			changed[i] ^= flip
			if back, ok := impl.VerifyChecksum(string(changed)); ok || back != "" {
				t.Fatalf("byte %d, changed to %q, is not detected", i, changed[i])
			}
		}
	}
}

// Each function returns for odd arguments, the same at each call, and zero values where it fails.
func TestStringFunctionsAreTotal(t *testing.T) {
	for _, a := range oddTexts() {
		if n, ok := impl.ParseInt(a); ok || n != 0 {
			t.Errorf("ParseInt(%.20q) = %d, %v", a, n, ok)
		}
		h, ok := impl.Checksum(a)
		if ok != (len(a) <= impl.MaxString) || !ok && h != 0 {
			t.Errorf("Checksum(%.20q) = %d, %v", a, h, ok)
		}
		sealed, ok := impl.AppendChecksum(a)
		back, opened := impl.VerifyChecksum(sealed)
		if ok && back != a || ok != opened || !ok && sealed != "" {
			t.Errorf("AppendChecksum(%.20q) = %.20q, %v", a, sealed, ok)
		}
		for _, b := range oddTexts() {
			parts, ok := impl.SplitString(a, b)
			if again, fine := impl.SplitString(a, b); fine != ok || !slices.Equal(parts, again) {
				t.Errorf("SplitString(%.20q, %.20q) differs from call to call", a, b)
			}
			if !ok && len(parts) != 0 {
				t.Errorf("SplitString(%.20q, %.20q) has %d parts and false", a, b, len(parts))
			}
			if text, ok := impl.JoinStrings([]string{a, b}, b); ok || text != "" {
				t.Errorf("parts with their separator %.20q are joined to %.20q", b, text)
			}
		}
	}
}
