package tests

import (
	"fmt"
	"math"
	"slices"
	"strings"
	"testing"

	"loop.example/g03319/impl"
)

func TestTextConstants(t *testing.T) {
	got := []int{impl.MaxInputLen, impl.MaxUint, impl.MaxLineLen, impl.MaxFieldsPerLine, impl.MaxSerial, impl.MaxUnknown}
	want := []int{20000, 1000000000, 600, 24, 999999, 3}
	if !slices.Equal(got, want) {
		t.Errorf("constants are %v, want %v", got, want)
	}
}

func allBytes() string {
	b := make([]byte, 256)
	for i := range b {
		b[i] = byte(i)
	}
	return string(b)
}

func TestEncodeHex(t *testing.T) {
	cases := []struct{ in, want string }{
		{"", ""},
		{"az", "617a"},
		{"\x00", "00"},
		{"\x0f\xf0", "0ff0"},
		{"\xab\xcd\xef", "abcdef"},
		{"\x12\x34\x56\x78\x9a", "123456789a"},
		{"é?\n", "c3a93f0a"},
		{allBytes(), fmt.Sprintf("%x", allBytes())},
		{strings.Repeat("\x7f", impl.MaxInputLen-1), strings.Repeat("7f", impl.MaxInputLen-1)},
		{strings.Repeat("\xfe", impl.MaxInputLen), strings.Repeat("fe", impl.MaxInputLen)},
	}
	for _, c := range cases {
		if got, ok := impl.EncodeHex(c.in); got != c.want || !ok {
			t.Errorf("EncodeHex(%.40q) = %.40q, %v; want %.40q, true", c.in, got, ok, c.want)
		}
	}
}

func TestEncodeHexTooLong(t *testing.T) {
	for _, n := range []int{impl.MaxInputLen + 1, impl.MaxInputLen + 2, 2 * impl.MaxInputLen, 2*impl.MaxInputLen + 2} {
		if got, ok := impl.EncodeHex(strings.Repeat("a", n)); got != "" || ok {
			t.Errorf("EncodeHex of %d bytes = %.20q, %v; want \"\", false", n, got, ok)
		}
	}
}

func TestDecodeHex(t *testing.T) {
	cases := []struct{ in, want string }{
		{"", ""},
		{"617a", "az"},
		{"00", "\x00"},
		{"0ff0", "\x0f\xf0"},
		{"abcdef", "\xab\xcd\xef"},
		{"0123456789", "\x01\x23\x45\x67\x89"},
		{fmt.Sprintf("%x", allBytes()), allBytes()},
		{strings.Repeat("1f", impl.MaxInputLen-1), strings.Repeat("\x1f", impl.MaxInputLen-1)},
		{strings.Repeat("fe", impl.MaxInputLen), strings.Repeat("\xfe", impl.MaxInputLen)},
	}
	for _, c := range cases {
		if got, ok := impl.DecodeHex(c.in); got != c.want || !ok {
			t.Errorf("DecodeHex(%.40q) = %.40q, %v; want %.40q, true", c.in, got, ok, c.want)
		}
	}
}

func TestDecodeHexInvalid(t *testing.T) {
	cases := []string{
		"6", "617", "0", "617a6", " ", "  ", "61 7a ", " 617a", "617a ", "6 1a",
		"AB", "aB", "Ab", "617A", "0x61", "-1", "+1", "zz", "6g", "g6", "617a\n", "é",
		"\xff\xff", "\x00\x00", "617a6g", "617ag6",
		strings.Repeat("00", impl.MaxInputLen+1),
		strings.Repeat("0", 2*impl.MaxInputLen+1),
		strings.Repeat("0", 2*impl.MaxInputLen-1),
		strings.Repeat("00", impl.MaxInputLen-1) + "0g",
	}
	for _, in := range cases {
		if got, ok := impl.DecodeHex(in); got != "" || ok {
			t.Errorf("DecodeHex(%.40q) = %.40q, %v; want \"\", false", in, got, ok)
		}
	}
}

func TestDecodeHexEachByteInEachHalf(t *testing.T) {
	for i := range 256 {
		c := string([]byte{byte(i)})
		isDigit := strings.Contains("0123456789abcdef", c)
		if _, ok := impl.DecodeHex(c + "1"); ok != isDigit {
			t.Errorf("DecodeHex(%q): ok is %v, want %v", c+"1", ok, isDigit)
		}
		if _, ok := impl.DecodeHex("1" + c); ok != isDigit {
			t.Errorf("DecodeHex(%q): ok is %v, want %v", "1"+c, ok, isDigit)
		}
	}
}

func TestHexRoundTrip(t *testing.T) {
	for i := range 256 {
		for _, s := range []string{string([]byte{byte(i)}), string([]byte{byte(i), byte(255 - i), 'x'})} {
			text, ok := impl.EncodeHex(s)
			if back, ok2 := impl.DecodeHex(text); !ok || !ok2 || back != s {
				t.Errorf("DecodeHex(EncodeHex(%q)) = %q, %v", s, back, ok2)
			}
		}
	}
	long := strings.Repeat(allBytes(), impl.MaxInputLen/256)
	text, _ := impl.EncodeHex(long)
	if back, ok := impl.DecodeHex(text); !ok || back != long {
		t.Error("a long string is not read again from its hexadecimal text")
	}
}

func TestFormatInt(t *testing.T) {
	cases := []struct {
		n    int
		want string
	}{
		{0, "0"}, {1, "1"}, {9, "9"}, {10, "10"}, {99, "99"}, {100, "100"}, {101, "101"}, {1000, "1000"},
		{-1, "-1"}, {-9, "-9"}, {-10, "-10"}, {-99, "-99"}, {-100, "-100"}, {-907, "-907"},
		{1234567890, "1234567890"}, {impl.MaxUint, "1000000000"}, {impl.MaxUint + 1, "1000000001"},
		{math.MaxInt32, "2147483647"}, {math.MinInt32, "-2147483648"}, {math.MaxUint32, "4294967295"},
		{math.MaxInt, "9223372036854775807"}, {math.MaxInt - 1, "9223372036854775806"},
		{math.MinInt, "-9223372036854775808"}, {math.MinInt + 1, "-9223372036854775807"},
	}
	for _, c := range cases {
		if got := impl.FormatInt(c.n); got != c.want {
			t.Errorf("FormatInt(%d) = %q", c.n, got)
		}
	}
	for n := -2000; n <= 2000; n++ {
		if got, want := impl.FormatInt(n), fmt.Sprint(n); got != want {
			t.Errorf("FormatInt(%d) = %q", n, got)
		}
	}
}

func TestParseUint(t *testing.T) {
	cases := []struct {
		s    string
		want int
	}{
		{"0", 0}, {"1", 1}, {"7", 7}, {"9", 9}, {"10", 10}, {"20", 20}, {"100", 100}, {"907", 907},
		{"123456789", 123456789}, {"999999999", 999999999}, {"1000000000", 1000000000},
	}
	for _, c := range cases {
		if got, ok := impl.ParseUint(c.s); got != c.want || !ok {
			t.Errorf("ParseUint(%q) = %d, %v; want %d, true", c.s, got, ok, c.want)
		}
	}
}

func TestParseUintInvalid(t *testing.T) {
	cases := []string{
		"", " ", "-", "+", "-0", "-1", "-10", "+0", "+1", "00", "01", "000", "007", "0000000001",
		" 1", "1 ", "1 2", "1\n", "\t1", "1\x00", "\x001",
		"a", "1a", "a1", "1a1", "0x10", "0b1", "1_000", "1,000", "1.0", ".5", "1e3", "?", "1?",
		"/", ":", "1/", "1:", "é", "٣", "１", "\xb1",
		"1000000001", "1000000010", "1100000000", "2000000000", "9999999999", "10000000000",
		"01000000000", "4294967296", "4294967297", "9223372036854775807", "9223372036854775808",
		"18446744073709551615", "18446744073709551616", "18446744073709551617",
		"340282366920938463463374607431768211457", strings.Repeat("0", 1000), strings.Repeat("1", 1000),
		"1" + strings.Repeat("0", 64),
	}
	for _, s := range cases {
		if got, ok := impl.ParseUint(s); got != 0 || ok {
			t.Errorf("ParseUint(%.40q) = %d, %v; want 0, false", s, got, ok)
		}
	}
}

func TestParseUintEachByte(t *testing.T) {
	for i := range 256 {
		c := string([]byte{byte(i)})
		isDigit := i >= '0' && i <= '9'
		if _, ok := impl.ParseUint(c); ok != isDigit {
			t.Errorf("ParseUint(%q): ok is %v", c, ok)
		}
		if _, ok := impl.ParseUint("1" + c + "1"); ok != isDigit {
			t.Errorf("ParseUint(%q): ok is %v", "1"+c+"1", ok)
		}
	}
}

func TestUintRoundTrip(t *testing.T) {
	for n := range 3000 {
		for _, m := range []int{n, n * 333333, impl.MaxUint - n} {
			if got, ok := impl.ParseUint(impl.FormatInt(m)); got != m || !ok {
				t.Errorf("ParseUint(FormatInt(%d)) = %d, %v", m, got, ok)
			}
		}
		if n > 0 {
			for _, m := range []int{-n, impl.MaxUint + n} {
				if got, ok := impl.ParseUint(impl.FormatInt(m)); got != 0 || ok {
					t.Errorf("ParseUint(FormatInt(%d)) = %d, %v; want 0, false", m, got, ok)
				}
			}
		}
	}
}

func checkFields(t *testing.T, line string, want []string) {
	t.Helper()
	if got, ok := impl.SplitFields(line); !ok || !slices.Equal(got, want) {
		t.Errorf("SplitFields(%.60q) = %.60q, %v; want %.60q, true", line, got, ok, want)
	}
}

func checkNoFields(t *testing.T, line string) {
	t.Helper()
	if got, ok := impl.SplitFields(line); ok || len(got) != 0 {
		t.Errorf("SplitFields(%.60q) = %.60q, %v; want nil, false", line, got, ok)
	}
}

func TestSplitFields(t *testing.T) {
	checkFields(t, "", nil)
	checkFields(t, " ", nil)
	checkFields(t, "     ", nil)
	checkFields(t, "a", []string{"a"})
	checkFields(t, "one two", []string{"one", "two"})
	checkFields(t, "  one   two three  ", []string{"one", "two", "three"})
	checkFields(t, " a", []string{"a"})
	checkFields(t, "a ", []string{"a"})
	checkFields(t, "a  b", []string{"a", "b"})
	checkFields(t, "b a b a", []string{"b", "a", "b", "a"})
	checkFields(t, "! ~ !~ \"x,y;\" ?-", []string{"!", "~", "!~", "\"x,y;\"", "?-"})
}

func TestSplitFieldsLineLength(t *testing.T) {
	checkFields(t, strings.Repeat("x", impl.MaxLineLen-1), []string{strings.Repeat("x", impl.MaxLineLen-1)})
	checkFields(t, strings.Repeat("x", impl.MaxLineLen), []string{strings.Repeat("x", impl.MaxLineLen)})
	checkFields(t, strings.Repeat(" ", impl.MaxLineLen), nil)
	checkFields(t, strings.Repeat(" ", impl.MaxLineLen-1)+"x", []string{"x"})
	checkNoFields(t, strings.Repeat("x", impl.MaxLineLen+1))
	checkNoFields(t, strings.Repeat(" ", impl.MaxLineLen+1))
	checkNoFields(t, "x"+strings.Repeat(" ", impl.MaxLineLen))
	checkNoFields(t, strings.Repeat(" ", impl.MaxLineLen)+"x")
}

func TestSplitFieldsFieldCount(t *testing.T) {
	for n := range impl.MaxFieldsPerLine + 1 {
		want := []string{}
		for i := range n {
			want = append(want, fmt.Sprint("f", i))
		}
		checkFields(t, strings.Join(want, " "), want)
		checkFields(t, "  "+strings.Join(want, "   ")+"  ", want)
	}
	for _, n := range []int{impl.MaxFieldsPerLine + 1, impl.MaxFieldsPerLine + 2, 2 * impl.MaxFieldsPerLine, impl.MaxLineLen / 2} {
		line := strings.TrimSpace(strings.Repeat("f ", n))
		checkNoFields(t, line)
		checkNoFields(t, line+" ")
	}
}

func TestSplitFieldsEachByte(t *testing.T) {
	for i := range 256 {
		c := string([]byte{byte(i)})
		if i == ' ' {
			continue
		}
		if i >= 33 && i <= 126 {
			checkFields(t, c, []string{c})
			checkFields(t, "a"+c+"b c", []string{"a" + c + "b", "c"})
			continue
		}
		for _, line := range []string{c, c + "a b", "a" + c + "b", "a b" + c, "a b " + c, " " + c + " ", c + strings.Repeat(" ", 599)} {
			checkNoFields(t, line)
		}
		checkNoFields(t, strings.Repeat("f ", impl.MaxFieldsPerLine)+c)
		checkNoFields(t, strings.Repeat("f ", impl.MaxFieldsPerLine+1)+c)
		checkNoFields(t, strings.Repeat("x", impl.MaxLineLen-1)+c)
	}
	checkNoFields(t, "façade")
	checkNoFields(t, "a\u00a0b")
	checkNoFields(t, "a\u3000b")
}

func TestSplitFieldsReturnsNewMemory(t *testing.T) {
	first, _ := impl.SplitFields("a b c")
	first[0] = "changed"
	_ = append(first[:1], "changed")
	checkFields(t, "a b c", []string{"a", "b", "c"})
}

func TestClamp(t *testing.T) {
	cases := []struct{ n, low, high, want int }{
		{5, 0, 10, 5}, {0, 0, 10, 0}, {10, 0, 10, 10}, {1, 0, 10, 1}, {9, 0, 10, 9},
		{-1, 0, 10, 0}, {11, 0, 10, 10}, {-100, -5, 5, -5}, {100, -5, 5, 5}, {-5, -5, 5, -5}, {-3, -5, -2, -3},
		{-1, -5, -2, -2}, {-6, -5, -2, -5}, {3, 7, 7, 7}, {7, 7, 7, 7}, {9, 7, 7, 7},
		{5, 10, 0, 10}, {-5, 10, 0, 10}, {0, 10, 0, 10}, {10, 10, 0, 10}, {15, 10, 0, 10}, {9, 10, 9, 10}, {10, 10, 9, 10}, {11, 10, 9, 10},
		{math.MinInt, math.MinInt, math.MaxInt, math.MinInt}, {math.MaxInt, math.MinInt, math.MaxInt, math.MaxInt},
		{0, math.MinInt, math.MaxInt, 0}, {math.MinInt, 0, math.MaxInt, 0}, {math.MaxInt, math.MinInt, 0, 0},
		{0, math.MaxInt, math.MinInt, math.MaxInt}, {math.MinInt, math.MaxInt, math.MinInt, math.MaxInt},
		{math.MaxInt, math.MinInt, math.MinInt, math.MinInt}, {math.MinInt, math.MaxInt, math.MaxInt, math.MaxInt},
	}
	for _, c := range cases {
		if got := impl.Clamp(c.n, c.low, c.high); got != c.want {
			t.Errorf("Clamp(%d, %d, %d) = %d, want %d", c.n, c.low, c.high, got, c.want)
		}
	}
}

func TestClampedValuesAreInTheRange(t *testing.T) {
	for low := -6; low <= 6; low++ {
		for high := low; high <= 6; high++ {
			for n := -9; n <= 9; n++ {
				got := impl.Clamp(n, low, high)
				if got < low || got > high || n >= low && n <= high && got != n || n < low && got != low || n > high && got != high {
					t.Errorf("Clamp(%d, %d, %d) = %d", n, low, high, got)
				}
			}
		}
	}
}
