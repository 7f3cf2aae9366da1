package tests

import (
	"slices"
	"strconv"
	"strings"
	"testing"

	"loop.example/g00840/impl"
)

func TestLimitsOfStrings(t *testing.T) {
	if impl.MaxString != 4000 || impl.MaxDecimal != 999999 {
		t.Error("limits", impl.MaxString, impl.MaxDecimal)
	}
}

func TestFormatInt(t *testing.T) {
	cases := map[int]string{
		0: "0", 1: "1", -1: "-1", 9: "9", 10: "10", -12: "-12", 907: "907", 120000: "120000",
		999999: "999999", -999999: "-999999",
	}
	for n, want := range cases {
		if s, ok := impl.FormatInt(n); !ok || s != want {
			t.Errorf("FormatInt(%d) = %q, %v", n, s, ok)
		}
	}
	const most, least = int(^uint(0) >> 1), -int(^uint(0)>>1) - 1
	for _, n := range []int{1000000, -1000000, 1000001, 1 << 32, -1 << 32, most, least} {
		if s, ok := impl.FormatInt(n); ok || s != "" {
			t.Errorf("FormatInt(%d) = %q, %v", n, s, ok)
		}
	}
}

func TestParseInt(t *testing.T) {
	cases := map[string]int{
		"0": 0, "7": 7, "-7": -7, "10": 10, "-12": -12, "100000": 100000,
		"999999": 999999, "-999999": -999999,
	}
	for s, want := range cases {
		if n, ok := impl.ParseInt(s); !ok || n != want {
			t.Errorf("ParseInt(%q) = %d, %v", s, n, ok)
		}
	}
}

func TestParseIntRefuses(t *testing.T) {
	bad := []string{
		"", "-", "+", "-0", "+0", "00", "01", "-01", "+1", "--1", "-+1", "1-",
		"1000000", "-1000000", "0999999", "9223372036854775807", "9223372036854775808", "18446744073709551617",
		" 1", "1 ", "1\n", "1\x00", "1.0", "1e3", "1_000", "0x1", "1x", "a", "/", ":", "\u0661", "\u2212" + "1", "\xff",
		strings.Repeat("0", 5000), strings.Repeat("9", 5000), strings.Repeat("0", 5000) + "1",
	}
	for _, s := range bad {
		if n, ok := impl.ParseInt(s); ok || n != 0 {
			t.Errorf("ParseInt(%.20q) = %d, %v", s, n, ok)
		}
	}
}

func TestDecimalRoundTrip(t *testing.T) {
	for n := -impl.MaxDecimal; n <= impl.MaxDecimal; n++ {
		s, ok := impl.FormatInt(n)
		m, fine := impl.ParseInt(s)
		if !ok || !fine || m != n || s != strconv.Itoa(n) {
			t.Fatalf("%d: %q, %v, %d, %v", n, s, ok, m, fine)
		}
	}
}

// What ParseInt takes is exactly what FormatInt gives, over all short texts of the signs that could be taken for a number's.
func TestParseIntIsInverse(t *testing.T) {
	eachText("01289+- _", 4, func(s string) {
		n, ok := impl.ParseInt(s)
		back, fine := impl.FormatInt(n)
		if ok && (!fine || back != s) {
			t.Errorf("ParseInt(%q) = %d", s, n)
		}
		if want, err := strconv.Atoi(s); !ok && err == nil && strconv.Itoa(want) == s {
			t.Errorf("ParseInt(%q) fails", s)
		}
	})
}

func TestSplitString(t *testing.T) {
	cases := []struct {
		s, sep string
		want   []string
	}{
		{"a,,b", ",", []string{"a", "", "b"}},
		{"", ",", []string{""}},
		{",", ",", []string{"", ""}},
		{",,", ",", []string{"", "", ""}},
		{"abc", ",", []string{"abc"}},
		{",abc", ",", []string{"", "abc"}},
		{"abc,", ",", []string{"abc", ""}},
		{"a b;c d", ";", []string{"a b", "c d"}},
		{"a,b;c", ";", []string{"a,b", "c"}},
		{"aXa", "a", []string{"", "X", ""}},
		{"a\x00b", "\x00", []string{"a", "b"}},
		{"a\xffb\xff", "\xff", []string{"a", "b", ""}},
		{"\u00e9", "\xc3", []string{"", "\xa9"}},
		{"\xff\xfe,\xfd", ",", []string{"\xff\xfe", "\xfd"}},
	}
	for _, c := range cases {
		if l, ok := impl.SplitString(c.s, c.sep); !ok || !slices.Equal(l, c.want) {
			t.Errorf("SplitString(%q, %q) = %q, %v", c.s, c.sep, l, ok)
		}
	}
}

func TestSplitStringRefuses(t *testing.T) {
	for _, sep := range []string{"", ",,", ",;", "\u00e9", strings.Repeat(",", 256)} {
		for _, s := range []string{"", "a", "a,,b", sep, "a" + sep + "b"} {
			if l, ok := impl.SplitString(s, sep); ok || len(l) != 0 {
				t.Errorf("SplitString(%.20q, %.20q) = %q, %v", s, sep, l, ok)
			}
		}
	}
}

func TestSplitStringAtItsLimit(t *testing.T) {
	if l, ok := impl.SplitString(strings.Repeat("a", impl.MaxString), ","); !ok || len(l) != 1 || len(l[0]) != impl.MaxString {
		t.Error("one element", len(l), ok)
	}
	l, ok := impl.SplitString(strings.Repeat(",", impl.MaxString), ",")
	if !ok || len(l) != impl.MaxString+1 || slices.ContainsFunc(l, func(s string) bool { return s != "" }) {
		t.Error("separators alone", len(l), ok)
	}
	for _, s := range []string{"a", ","} {
		if l, ok := impl.SplitString(strings.Repeat(s, impl.MaxString+1), ","); ok || len(l) != 0 {
			t.Error("too long", len(l), ok)
		}
	}
}

func TestSplitStringGivesNewMemory(t *testing.T) {
	first, _ := impl.SplitString("a,b,c", ",")
	second, _ := impl.SplitString("a,b,c", ",")
	first[0] = "x"
	first = append(first[:1], "y")
	if !slices.Equal(second, []string{"a", "b", "c"}) {
		t.Error("shared", first, second)
	}
}

func TestJoinStrings(t *testing.T) {
	cases := []struct {
		parts []string
		sep   string
		want  string
	}{
		{[]string{"a", "", "b"}, ";", "a;;b"},
		{[]string{""}, ";", ""},
		{[]string{"", ""}, ";", ";"},
		{[]string{"abc"}, ";", "abc"},
		{[]string{"", "abc", ""}, ",", ",abc,"},
		{[]string{"a,b", "c"}, ";", "a,b;c"},
		{[]string{"a", "b"}, "\x00", "a\x00b"},
		{[]string{"a", "b"}, "\xff", "a\xffb"},
		{[]string{"\xff", "\xfe"}, " ", "\xff \xfe"},
	}
	for _, c := range cases {
		if s, ok := impl.JoinStrings(c.parts, c.sep); !ok || s != c.want {
			t.Errorf("JoinStrings(%q, %q) = %q, %v", c.parts, c.sep, s, ok)
		}
	}
}

func TestJoinStringsRefuses(t *testing.T) {
	cases := []struct {
		parts []string
		sep   string
	}{
		{nil, ";"}, {[]string{}, ";"}, {nil, ""},
		{[]string{"a", "b"}, ""}, {[]string{"a", "b"}, ";;"}, {[]string{"a", "b"}, "\u00e9"}, {[]string{"a"}, ""}, {[]string{"a"}, ", "},
		{[]string{"a;b"}, ";"}, {[]string{";"}, ";"}, {[]string{";a", "b"}, ";"}, {[]string{"a;", "b"}, ";"},
		{[]string{"a", "b;c", "d"}, ";"}, {[]string{"a", "b", ";"}, ";"}, {[]string{"a", "b", "c;"}, ";"},
		{[]string{"a", "\u00e9"}, "\xa9"}, {[]string{"a\x00"}, "\x00"},
	}
	for _, c := range cases {
		if s, ok := impl.JoinStrings(c.parts, c.sep); ok || s != "" {
			t.Errorf("JoinStrings(%q, %q) = %q, %v", c.parts, c.sep, s, ok)
		}
	}
}

func TestJoinStringsAtItsLimit(t *testing.T) {
	full := strings.Repeat("a", impl.MaxString)
	for _, parts := range [][]string{
		{full}, {full[1:], ""}, {"", full[1:]}, {full[:1999], full[:2000]}, {full[:1000], full[:1000], full[:1998]},
		make([]string, impl.MaxString+1),
	} {
		if s, ok := impl.JoinStrings(parts, ","); !ok || s != strings.Join(parts, ",") || len(s) != impl.MaxString {
			t.Error("refused", len(parts), len(s), ok)
		}
		for _, longer := range [][]string{append(slices.Clone(parts), ""), append(slices.Clone(parts[1:]), parts[0]+"a")} {
			if s, ok := impl.JoinStrings(longer, ","); ok || s != "" {
				t.Error("too long", len(longer), len(s), ok)
			}
		}
	}
}

func TestJoinStringsKeepsItsArgument(t *testing.T) {
	all := []string{"a", "b", ";", "d"}
	parts := all[:2]
	if s, ok := impl.JoinStrings(parts, ";"); !ok || s != "a;b" {
		t.Error("joined", s, ok)
	}
	if _, ok := impl.JoinStrings(all, ";"); ok {
		t.Error("sign within")
	}
	if !slices.Equal(all, []string{"a", "b", ";", "d"}) {
		t.Error("changed", all)
	}
}

func TestSplittingRoundTrip(t *testing.T) {
	eachText(",;a\x00\xff", 5, func(s string) {
		for _, sep := range []string{",", ";", "a", "\x00", "\xff", "z"} {
			parts, ok := impl.SplitString(s, sep)
			back, fine := impl.JoinStrings(parts, sep)
			if !ok || !fine || back != s || len(parts) != strings.Count(s, sep)+1 {
				t.Fatalf("%q at %q: %q, %v, %q, %v", s, sep, parts, ok, back, fine)
			}
		}
	})
	texts := []string{}
	eachText("a;", 2, func(s string) { texts = append(texts, s) })
	for _, a := range texts {
		for _, b := range texts {
			joined, ok := impl.JoinStrings([]string{a, b}, ";")
			if want := !strings.Contains(a+b, ";"); ok != want {
				t.Fatalf("JoinStrings(%q, %q) = %q, %v", a, b, joined, ok)
			}
			if parts, fine := impl.SplitString(joined, ";"); ok && (!fine || !slices.Equal(parts, []string{a, b})) {
				t.Fatalf("%q and %q come back as %q", a, b, parts)
			}
		}
	}
}

func TestLessString(t *testing.T) {
	for _, c := range [][2]string{
		{"", "a"}, {"", "\x00"}, {"a", "ab"}, {"a", "b"}, {"ab", "b"}, {"abz", "ac"}, {"B", "a"}, {"10", "9"}, {"a", "a\x00"},
		{"a\x7f", "a\x80"}, {"z", "\xc3\xa9"}, {"\xc3", "\xff"}, {"\xef\xbf\xbf", "\xf0\x90\x80\x80"}, {strings.Repeat("a", 4999), strings.Repeat("a", 5000)},
	} {
		if !impl.LessString(c[0], c[1]) || impl.LessString(c[1], c[0]) {
			t.Errorf("%.20q and %.20q", c[0], c[1])
		}
	}
	for _, s := range []string{"", "a", "ab", "\xff", strings.Repeat("a", 5000)} {
		if impl.LessString(s, s) {
			t.Errorf("%.20q is less than itself", s)
		}
	}
}

func TestChecksum(t *testing.T) {
	// Worked out by hand from the rule; "abcd" is the first one that passes the modulus.
	cases := map[string]int{
		"": 7, "a": 385, "#": 323, "\x00": 288, "\xff": 543, "ab": 15884, "ba": 15924, "abc": 651344, "abcd": 705751,
		"\u00e9": 19973,
	}
	for s, want := range cases {
		if n, ok := impl.Checksum(s); !ok || n != want {
			t.Errorf("Checksum(%q) = %d, %v", s, n, ok)
		}
	}
	long := strings.Repeat("ab\xff#", impl.MaxString/4)
	if n, ok := impl.Checksum(long); !ok || n != wantedSum(long) {
		t.Error("at the limit", n, ok)
	}
	for _, s := range []string{long + "a", long + long} {
		if n, ok := impl.Checksum(s); ok || n != 0 {
			t.Error("too long", n, ok)
		}
	}
}

func TestChecksumOfEveryByte(t *testing.T) {
	for c := range 256 {
		for _, s := range []string{string([]byte{byte(c)}), string([]byte{'a', 'b', 'c', byte(c), 'd', byte(c)})} {
			if n, ok := impl.Checksum(s); !ok || n != wantedSum(s) {
				t.Errorf("Checksum(%q) = %d, %v", s, n, ok)
			}
		}
	}
}

func TestAppendChecksum(t *testing.T) {
	for s, want := range map[string]string{
		"": "#7", "a": "a#385", "ab": "ab#15884", "abcd": "abcd#705751", "\xff": "\xff#543", "a b,c": "a b,c#" + strconv.Itoa(wantedSum("a b,c")),
	} {
		if got, ok := impl.AppendChecksum(s); !ok || got != want {
			t.Errorf("AppendChecksum(%q) = %q, %v", s, got, ok)
		}
	}
	for _, s := range []string{"#", "a#", "#a", "a#b", "a#385", "##"} {
		if got, ok := impl.AppendChecksum(s); ok || got != "" {
			t.Errorf("AppendChecksum(%q) = %q, %v", s, got, ok)
		}
	}
}

// The longest text that can be sealed depends on how many digits its checksum has.
func TestAppendChecksumAtItsLimit(t *testing.T) {
	for digits := 3; digits <= 6; digits++ {
		for size := impl.MaxString - 8; size <= impl.MaxString+1; size++ {
			s := textWithSum(t, size, digits)
			got, ok := impl.AppendChecksum(s)
			if size+1+digits > impl.MaxString {
				if ok || got != "" {
					t.Error("too long", size, digits, len(got), ok)
				}
				continue
			}
			if !ok || got != s+"#"+strconv.Itoa(wantedSum(s)) {
				t.Error("refused", size, digits, len(got), ok)
			}
			if back, fine := impl.VerifyChecksum(got); !fine || back != s {
				t.Error("not opened", size, digits, len(back), fine)
			}
		}
	}
}

func TestVerifyChecksum(t *testing.T) {
	for s, want := range map[string]string{"#7": "", "a#385": "a", "ab#15884": "ab", "abcd#705751": "abcd", "\xff#543": "\xff"} {
		if got, ok := impl.VerifyChecksum(s); !ok || got != want {
			t.Errorf("VerifyChecksum(%q) = %q, %v", s, got, ok)
		}
	}
}

func TestVerifyChecksumRefuses(t *testing.T) {
	tooLong := textWithSum(t, impl.MaxString-6, 6)
	bad := []string{
		"", "a", "#", "a#", "#a", "7", "#07", "#+7", "#-7", "#7 ", " #7", "#7#", "##7", "#7#7",
		"a#384", "a#386", "a#0385", "a#+385", "a#-385", "a# 385", "a#385 ", "a#385\n", "a#385#", "a#385#1", "a##385", "#a#385",
		"b#385", "A#385", "aa#385", "a385", "a#" + strconv.Itoa(385+999979), "a#b#" + strconv.Itoa(wantedSum("a#b")),
		"##" + strconv.Itoa(wantedSum("#")), "a#385#" + strconv.Itoa(wantedSum("a#385")),
		tooLong + "#" + strconv.Itoa(wantedSum(tooLong)), strings.Repeat("#", 5000), strings.Repeat("a", 5000) + "#1",
	}
	for _, s := range bad {
		if got, ok := impl.VerifyChecksum(s); ok || got != "" {
			t.Errorf("VerifyChecksum(%.30q) = %q, %v", s, got, ok)
		}
	}
}

func TestChecksumRoundTrip(t *testing.T) {
	eachText("a#7\x00\xff", 5, func(s string) {
		sealed, ok := impl.AppendChecksum(s)
		if ok == strings.Contains(s, "#") {
			t.Fatalf("AppendChecksum(%q) = %q, %v", s, sealed, ok)
		}
		if back, fine := impl.VerifyChecksum(sealed); ok && (!fine || back != s) {
			t.Fatalf("VerifyChecksum(%q) = %q, %v", sealed, back, fine)
		}
		if back, fine := impl.VerifyChecksum(s); fine {
			if again, _ := impl.AppendChecksum(back); again != s {
				t.Fatalf("VerifyChecksum(%q) = %q", s, back)
			}
		}
	})
}

func TestChangedByteIsDetected(t *testing.T) {
	every := []byte{}
	for c := range 256 {
		if c != '#' {
			every = append(every, byte(c))
		}
	}
	for _, s := range []string{"", "a", "385", "ab,cd;ef 12", "\x00\xff\x80", string(every), strings.Repeat("7", 40)} {
		sealed, ok := impl.AppendChecksum(s)
		if !ok {
			t.Fatalf("AppendChecksum(%q) fails", s)
		}
		for i := range len(sealed) {
			changed := []byte(sealed)
			for d := 1; d < 256; d++ {
				changed[i] = sealed[i] + byte(d)
				if got, ok := impl.VerifyChecksum(string(changed)); ok || got != "" {
					t.Fatalf("%q passes for %q", changed, sealed)
				}
			}
		}
	}
}

func TestChangedByteOfALongStringIsDetected(t *testing.T) {
	sealed, ok := impl.AppendChecksum(textWithSum(t, impl.MaxString-7, 6))
	if !ok || len(sealed) != impl.MaxString {
		t.Fatal("sealed", len(sealed), ok)
	}
	for i := range len(sealed) {
		for _, d := range []byte{1, 41, 128, 255} {
			changed := []byte(sealed)
			changed[i] += d
			if got, ok := impl.VerifyChecksum(string(changed)); ok || got != "" {
				t.Fatal("passes", i, d)
			}
		}
	}
}

// wantedSum is the checksum of s by the rule of the document, without a limit.
func wantedSum(s string) int { return sumFrom(7, s) }

func sumFrom(h int, s string) int {
	for i := 0; i < len(s); i++ {
		h = (41*h + int(s[i]) + 1) % 999979
	}
	return h
}

// textWithSum returns a text of letters whose checksum has that many digits.
func textWithSum(t *testing.T, size, digits int) string {
	t.Helper()
	start := strings.Repeat("a", size-5)
	h := wantedSum(start)
	for n := range 26 * 26 * 26 * 26 * 26 {
		end := make([]byte, 5)
		for i := range end {
			end[i] = 'a' + byte(n%26)
			n /= 26
		}
		if len(strconv.Itoa(sumFrom(h, string(end)))) == digits {
			return start + string(end)
		}
	}
	t.Fatal("no text of this size with such a checksum", size, digits)
	return ""
}

// eachText calls f with every text of at most that many of the given bytes.
func eachText(bytes string, most int, f func(string)) {
	texts := []string{""}
	for len(texts) > 0 {
		s := texts[0]
		texts = texts[1:]
		f(s)
		for i := 0; i < len(bytes) && len(s) < most; i++ {
			texts = append(texts, s+bytes[i:i+1])
		}
	}
}
