package tests

import (
	"math"
	"slices"
	"strconv"
	"strings"
	"testing"

	"loop.example/g03313/impl"
)

func TestEncodeHexGivesTwoDigitsForEachByte(t *testing.T) {
	cases := []struct{ text, hex string }{
		{"", ""},
		{"az", "617a"},
		{"\x00", "00"},
		{"\x0f\xf0", "0ff0"},
		{"\x9a\xbc\xde\xff", "9abcdeff"},
		{"\x80\x00\xc3\xa9", "8000c3a9"},
	}
	for _, c := range cases {
		if got, ok := impl.EncodeHex(c.text); got != c.hex || !ok {
			t.Errorf("EncodeHex(%q) = %q, %v; want %q, true", c.text, got, ok, c.hex)
		}
		if got, ok := impl.DecodeHex(c.hex); got != c.text || !ok {
			t.Errorf("DecodeHex(%q) = %q, %v; want %q, true", c.hex, got, ok, c.text)
		}
	}
}

func TestHexTextOfEveryByteIsDecoded(t *testing.T) {
	for b := range 256 {
		text := string([]byte{byte(b), byte(255 - b)})
		hex, encoded := impl.EncodeHex(text)
		got, decoded := impl.DecodeHex(hex)
		if !encoded || len(hex) != 4 || !decoded || got != text {
			t.Errorf("byte %d: EncodeHex(%q) = %q, %v, and decoded %q, %v", b, text, hex, encoded, got, decoded)
		}
	}
}

func TestEncodeHexLimit(t *testing.T) {
	longest := strings.Repeat("k", impl.MaxInputLen)
	if got, ok := impl.EncodeHex(longest); !ok || got != strings.Repeat("6b", impl.MaxInputLen) {
		t.Errorf("MaxInputLen bytes: %d digits, %v", len(got), ok)
	}
	if got, ok := impl.EncodeHex(longest + "k"); ok || got != "" {
		t.Errorf("MaxInputLen+1 bytes: %d digits, %v; want none, false", len(got), ok)
	}
}

func TestDecodeHexLimit(t *testing.T) {
	longest := strings.Repeat("6b", impl.MaxInputLen)
	if got, ok := impl.DecodeHex(longest); !ok || got != strings.Repeat("k", impl.MaxInputLen) {
		t.Errorf("result of MaxInputLen bytes: %d bytes, %v", len(got), ok)
	}
	for _, more := range []string{"6", "6b"} {
		if got, ok := impl.DecodeHex(longest + more); ok || got != "" {
			t.Errorf("%d digits: %d bytes, %v; want none, false", len(longest+more), len(got), ok)
		}
	}
}

func TestDecodeHexRejectsOtherText(t *testing.T) {
	invalid := []string{
		"6", "617", "617a6", "0",
		"7A", "A7", "617A", "FF", "aF",
		"6g", "g6", "0x61", " 61", "61 ", "6 1a", "+1", "-1", "\x00\x00", "\xff\xff", "é",
		"617a6z", "zz617a",
	}
	for _, s := range invalid {
		if got, ok := impl.DecodeHex(s); ok || got != "" {
			t.Errorf("DecodeHex(%q) = %q, %v; want none, false", s, got, ok)
		}
	}
}

func TestDecodeHexTakesOnlyLowercaseDigits(t *testing.T) {
	for b := range 256 {
		isDigit := b >= '0' && b <= '9' || b >= 'a' && b <= 'f'
		for _, s := range []string{string([]byte{byte(b), '0'}), string([]byte{'0', byte(b)})} {
			got, ok := impl.DecodeHex(s)
			if ok != isDigit {
				t.Errorf("DecodeHex(%q) = %q, %v; want %v", s, got, ok, isDigit)
			}
			if back, _ := impl.EncodeHex(got); ok && back != s || !ok && got != "" {
				t.Errorf("DecodeHex(%q) = %q, which is encoded as %q", s, got, back)
			}
		}
	}
}

func TestFormatInt(t *testing.T) {
	cases := []struct {
		n    int
		text string
	}{
		{0, "0"}, {7, "7"}, {10, "10"}, {120, "120"}, {1000000000, "1000000000"},
		{-1, "-1"}, {-10, "-10"}, {-30, "-30"}, {-999, "-999"},
		{math.MaxInt64, "9223372036854775807"},
		{math.MinInt64 + 1, "-9223372036854775807"},
		{math.MinInt64, "-9223372036854775808"},
	}
	for _, c := range cases {
		if got := impl.FormatInt(c.n); got != c.text {
			t.Errorf("FormatInt(%d) = %q; want %q", c.n, got, c.text)
		}
	}
}

func TestNumbersAreParsedFromTheirText(t *testing.T) {
	numbers := []int{999999999, impl.MaxUint - 1, impl.MaxUint}
	for n := range 2000 {
		numbers = append(numbers, n, n*499979)
	}
	for _, n := range numbers {
		if got, ok := impl.ParseUint(impl.FormatInt(n)); got != n || !ok {
			t.Errorf("ParseUint(FormatInt(%d)) = %d, %v", n, got, ok)
		}
		if got := impl.FormatInt(n); got != strconv.Itoa(n) {
			t.Errorf("FormatInt(%d) = %q", n, got)
		}
	}
}

func TestParseUintReadsDecimalText(t *testing.T) {
	cases := []struct {
		text string
		n    int
	}{
		{"0", 0}, {"9", 9}, {"10", 10}, {"120", 120}, {"1000000", 1000000}, {"1000000000", 1000000000},
	}
	for _, c := range cases {
		if got, ok := impl.ParseUint(c.text); got != c.n || !ok {
			t.Errorf("ParseUint(%q) = %d, %v; want %d, true", c.text, got, ok, c.n)
		}
	}
}

func TestParseUintRejectsOtherText(t *testing.T) {
	invalid := []string{
		"", " ", "-", "+",
		"01", "00", "007", "0000000000", "01000000000",
		"-1", "-0", "+0", "+1", "-1000000000", "-9223372036854775808",
		"1000000001", "1000000010", "9999999999", "10000000000",
		"9223372036854775807", "9223372036854775808", "18446744073709551616", "18446744073709551617",
		"1" + strings.Repeat("0", 100), strings.Repeat("9", 30000),
		" 1", "1 ", "1 2", "1_000", "1,000", "1.0", "1e3", "0x10", "0b1", "0o7", "12a", "a12", "1\x00", "\x001", "１", "1\n",
	}
	for _, s := range invalid {
		if got, ok := impl.ParseUint(s); ok || got != 0 {
			t.Errorf("ParseUint(%.40q) = %d, %v; want 0, false", s, got, ok)
		}
	}
}

func TestParseUintTakesOnlyDigits(t *testing.T) {
	for b := range 256 {
		isDigit := b >= '0' && b <= '9'
		for _, s := range []string{string([]byte{byte(b)}), string([]byte{'1', byte(b), '1'})} {
			if got, ok := impl.ParseUint(s); ok != isDigit || !ok && got != 0 || ok && impl.FormatInt(got) != s {
				t.Errorf("ParseUint(%q) = %d, %v", s, got, ok)
			}
		}
	}
}

func TestSplitFields(t *testing.T) {
	cases := []struct {
		line   string
		fields []string
	}{
		{"", []string{}},
		{" ", []string{}},
		{"     ", []string{}},
		{"a", []string{"a"}},
		{" a", []string{"a"}},
		{"a ", []string{"a"}},
		{"send 12", []string{"send", "12"}},
		{"  send 12  x ", []string{"send", "12", "x"}},
		{"b a b", []string{"b", "a", "b"}},
		{"!~ \"' #", []string{"!~", "\"'", "#"}},
	}
	for _, c := range cases {
		if got, ok := impl.SplitFields(c.line); !ok || !slices.Equal(got, c.fields) {
			t.Errorf("SplitFields(%q) = %q, %v; want %q, true", c.line, got, ok, c.fields)
		}
	}
}

func TestSplitFieldsTakesOnlyPrintableBytes(t *testing.T) {
	for b := range 256 {
		isValid := b >= 32 && b <= 126
		want := []string{"a" + string([]byte{byte(b)}) + "c"}
		if b == 32 {
			want = []string{"a", "c"}
		}
		got, ok := impl.SplitFields("a" + string([]byte{byte(b)}) + "c")
		if ok != isValid || ok && !slices.Equal(got, want) || !ok && len(got) != 0 {
			t.Errorf("byte %d between two letters: %q, %v", b, got, ok)
		}
	}
}

func TestSplitFieldsRejectsAnInvalidByteAnywhere(t *testing.T) {
	for _, b := range []string{"\x00", "\t", "\n", "\x1f", "\x7f", "\x80", "\xff", "é"} {
		for _, line := range []string{b, b + "ab cd", "ab" + b + "cd", "ab " + b + " cd", "ab cd" + b, "ab cd " + b} {
			if got, ok := impl.SplitFields(line); ok || len(got) != 0 {
				t.Errorf("SplitFields(%q) = %q, %v; want none, false", line, got, ok)
			}
		}
	}
}

func TestSplitFieldsLineLimit(t *testing.T) {
	word := strings.Repeat("w", impl.MaxLineLen)
	if got, ok := impl.SplitFields(word); !ok || !slices.Equal(got, []string{word}) {
		t.Errorf("a word of MaxLineLen bytes: %d fields, %v", len(got), ok)
	}
	spaces := strings.Repeat(" ", impl.MaxLineLen)
	if got, ok := impl.SplitFields(spaces); !ok || len(got) != 0 {
		t.Errorf("MaxLineLen spaces: %d fields, %v", len(got), ok)
	}
	for _, line := range []string{word + "w", spaces + " ", word + " ", " " + word, "a" + spaces} {
		if got, ok := impl.SplitFields(line); ok || len(got) != 0 {
			t.Errorf("a line of %d bytes: %d fields, %v; want none, false", len(line), len(got), ok)
		}
	}
}

func TestSplitFieldsFieldLimit(t *testing.T) {
	most := strings.Repeat(" f", impl.MaxFieldsPerLine)
	if got, ok := impl.SplitFields(most + " "); !ok || len(got) != impl.MaxFieldsPerLine {
		t.Errorf("MaxFieldsPerLine fields: %d fields, %v", len(got), ok)
	}
	for _, line := range []string{most + " f", "f" + most, most + " f ", most + most} {
		if got, ok := impl.SplitFields(line); ok || len(got) != 0 {
			t.Errorf("SplitFields(%q) = %d fields, %v; want none, false", line, len(got), ok)
		}
	}
}

// TestSplitFieldsFindsMaximalRuns checks every line of up to 8 letters and spaces against the
// definition of a field.
func TestSplitFieldsFindsMaximalRuns(t *testing.T) {
	for length := range 9 {
		for bits := range 1 << length {
			line := []byte(strings.Repeat(" ", length))
			for i := range line {
				if bits>>i&1 == 1 {
					line[i] = 'a' + byte(i)
				}
			}
			got, ok := impl.SplitFields(string(line))
			if want := strings.Fields(string(line)); !ok || !slices.Equal(got, want) {
				t.Errorf("SplitFields(%q) = %q, %v; want %q", line, got, ok, want)
			}
		}
	}
}

func TestSplitFieldsGivesNewMemory(t *testing.T) {
	first, _ := impl.SplitFields("a b c")
	first[0] = "changed"
	_ = append(first[:1], "changed")
	if second, ok := impl.SplitFields("a b c"); !ok || !slices.Equal(second, []string{"a", "b", "c"}) {
		t.Errorf("a second call returned %q, %v", second, ok)
	}
}

func TestClamp(t *testing.T) {
	cases := []struct{ n, low, high, want int }{
		{3, 1, 5, 3}, {1, 1, 5, 1}, {5, 1, 5, 5}, {0, 1, 5, 1}, {9, 1, 5, 5},
		{-7, -5, -1, -5}, {0, -5, -1, -1}, {-3, -5, -1, -3},
		{4, 4, 4, 4}, {3, 4, 4, 4}, {5, 4, 4, 4},
		{math.MinInt, -1, 1, -1}, {math.MaxInt, -1, 1, 1},
		{0, math.MinInt, math.MaxInt, 0}, {math.MinInt, math.MinInt, math.MaxInt, math.MinInt},
		{math.MaxInt, math.MinInt, math.MaxInt, math.MaxInt},
	}
	for _, c := range cases {
		if got := impl.Clamp(c.n, c.low, c.high); got != c.want {
			t.Errorf("Clamp(%d, %d, %d) = %d; want %d", c.n, c.low, c.high, got, c.want)
		}
	}
}

func TestClampWithHighLessThanLow(t *testing.T) {
	for _, n := range []int{math.MinInt, -9, 0, 1, 2, 3, 4, 5, 6, 9, math.MaxInt} {
		if got := impl.Clamp(n, 5, 1); got != 5 {
			t.Errorf("Clamp(%d, 5, 1) = %d; want 5", n, got)
		}
		if got := impl.Clamp(n, math.MaxInt, math.MinInt); got != math.MaxInt {
			t.Errorf("Clamp(%d, MaxInt, MinInt) = %d; want MaxInt", n, got)
		}
	}
}

func TestClampedValuesAreInTheRange(t *testing.T) {
	for n := -6; n <= 6; n++ {
		for low := -5; low <= 5; low++ {
			for high := low; high <= 5; high++ {
				got := impl.Clamp(n, low, high)
				if got < low || got > high || n >= low && n <= high && got != n {
					t.Errorf("Clamp(%d, %d, %d) = %d", n, low, high, got)
				}
			}
		}
	}
}

func TestTextLimits(t *testing.T) {
	if impl.MaxInputLen != 20000 || impl.MaxUint != 1000000000 || impl.MaxLineLen != 600 || impl.MaxFieldsPerLine != 24 {
		t.Error("the limits are not those of the document")
	}
}
