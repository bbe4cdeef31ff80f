package tests

import (
	"math"
	"math/big"
	"slices"
	"strings"
	"testing"

	"loop.example/g00982/impl"
)

// allBytes holds each of the 256 bytes once, in ascending order.
func allBytes() string {
	b := make([]byte, 256)
	for i := range b {
		b[i] = byte(i)
	}
	return string(b)
}

func wantEncoded(t *testing.T, s string, want string) {
	t.Helper()
	if got, ok := impl.EncodeHex(s); got != want || !ok {
		t.Errorf("EncodeHex(%.60q) = %.60q, %v; want %.60q, true", s, got, ok, want)
	}
}

func wantDecoded(t *testing.T, s string, want string) {
	t.Helper()
	if got, ok := impl.DecodeHex(s); got != want || !ok {
		t.Errorf("DecodeHex(%.60q) = %.60q, %v; want %.60q, true", s, got, ok, want)
	}
}

func wantNotDecoded(t *testing.T, s string) {
	t.Helper()
	if got, ok := impl.DecodeHex(s); got != "" || ok {
		t.Errorf("DecodeHex(%.60q) of length %d = %.60q, %v; want \"\", false", s, len(s), got, ok)
	}
}

func TestLimitsOfText(t *testing.T) {
	got := []int{impl.MaxInputLen, impl.MaxUint, impl.MaxLineLen, impl.MaxFieldsPerLine}
	if want := []int{20000, 1000000000, 600, 24}; !slices.Equal(got, want) {
		t.Errorf("limits are %v; want %v", got, want)
	}
}

func TestEncodeHex(t *testing.T) {
	wantEncoded(t, "", "")
	wantEncoded(t, "az", "617a")
	wantEncoded(t, "\x00\x01\x0f\x10\x7f\x80\xf0\xff", "00010f107f80f0ff")
	wantEncoded(t, "é", "c3a9")
	for i := 0; i < 256; i++ {
		const digits = "0123456789abcdef"
		wantEncoded(t, string([]byte{byte(i)}), string([]byte{digits[i/16], digits[i%16]}))
	}
}

func TestEncodeHexLimit(t *testing.T) {
	wantEncoded(t, strings.Repeat("\xab", 19999), strings.Repeat("ab", 19999))
	wantEncoded(t, strings.Repeat("\xab", 20000), strings.Repeat("ab", 20000))
	for _, n := range []int{20001, 20002, 50000} {
		if got, ok := impl.EncodeHex(strings.Repeat("a", n)); got != "" || ok {
			t.Errorf("EncodeHex of %d bytes = %.60q, %v; want \"\", false", n, got, ok)
		}
	}
}

func TestDecodeHex(t *testing.T) {
	wantDecoded(t, "", "")
	wantDecoded(t, "617a", "az")
	wantDecoded(t, "00010f107f80f0ff", "\x00\x01\x0f\x10\x7f\x80\xf0\xff")
	wantDecoded(t, "0123456789abcdef", "\x01\x23\x45\x67\x89\xab\xcd\xef")
}

func TestDecodeHexUndoesEncodeHex(t *testing.T) {
	bytes := allBytes()
	for i := range bytes {
		for _, s := range []string{bytes[:i], bytes[i:], bytes[i:] + bytes[:i]} {
			h, ok := impl.EncodeHex(s)
			if !ok || len(h) != 2*len(s) {
				t.Fatalf("EncodeHex(%q) = %q, %v", s, h, ok)
			}
			wantDecoded(t, h, s)
		}
	}
}

func TestDecodeHexLimit(t *testing.T) {
	wantDecoded(t, strings.Repeat("7f", 19999), strings.Repeat("\x7f", 19999))
	wantDecoded(t, strings.Repeat("7f", 20000), strings.Repeat("\x7f", 20000))
	wantNotDecoded(t, strings.Repeat("7f", 20000)+"7")
	wantNotDecoded(t, strings.Repeat("7f", 20001))
	wantNotDecoded(t, strings.Repeat("7f", 50000))
}

func TestDecodeHexOddLength(t *testing.T) {
	for _, s := range []string{"0", "f", "617", "617a6", strings.Repeat("0", 39999)} {
		wantNotDecoded(t, s)
	}
}

func TestDecodeHexOtherCharacters(t *testing.T) {
	for _, s := range []string{"6A", "A6", "FF", "617A", "0x61", "61 7a", " 617a", "617a\n", "+1", "-1", "é", "6g", "g6", "``", "::"} {
		wantNotDecoded(t, s)
	}
	for i := 0; i < 256; i++ {
		c := string([]byte{byte(i)})
		if strings.Contains("0123456789abcdef", c) {
			continue
		}
		for _, s := range []string{c + "0", "0" + c, "6161" + c + "0", "610" + c + "61"} {
			wantNotDecoded(t, s)
		}
	}
}

func TestFormatInt(t *testing.T) {
	cases := map[int]string{
		0:             "0",
		7:             "7",
		-5:            "-5",
		10:            "10",
		-10:           "-10",
		100:           "100",
		-1000000000:   "-1000000000",
		1000000000:    "1000000000",
		1000000001:    "1000000001",
		math.MaxInt32: "2147483647",
		math.MinInt32: "-2147483648",
		math.MaxInt:   "9223372036854775807",
		math.MinInt:   "-9223372036854775808",
	}
	for n, want := range cases {
		if got := impl.FormatInt(n); got != want {
			t.Errorf("FormatInt(%s) = %q", want, got)
		}
	}
}

func TestFormatIntAgreesWithBig(t *testing.T) {
	check := func(n int) {
		if got, want := impl.FormatInt(n), big.NewInt(int64(n)).String(); got != want {
			t.Errorf("FormatInt(%s) = %q", want, got)
		}
	}
	for n := -2000; n <= 2000; n++ {
		check(n)
		check(math.MaxInt - 2000 + n)
		check(math.MinInt + 2000 + n)
	}
	for power := 1; power <= math.MaxInt/10; power *= 10 {
		for n := power - 1; n <= power+1; n++ {
			check(n)
			check(-n)
		}
	}
}

func wantParsed(t *testing.T, s string, want int) {
	t.Helper()
	if got, ok := impl.ParseUint(s); got != want || !ok {
		t.Errorf("ParseUint(%q) = %d, %v; want %d, true", s, got, ok, want)
	}
}

func wantNotParsed(t *testing.T, s string) {
	t.Helper()
	if got, ok := impl.ParseUint(s); got != 0 || ok {
		t.Errorf("ParseUint(%.60q) = %d, %v; want 0, false", s, got, ok)
	}
}

func TestParseUint(t *testing.T) {
	wantParsed(t, "0", 0)
	wantParsed(t, "1", 1)
	wantParsed(t, "9", 9)
	wantParsed(t, "10", 10)
	wantParsed(t, "123456789", 123456789)
	wantParsed(t, "999999999", 999999999)
	wantParsed(t, "1000000000", 1000000000)
}

func TestParseUintUndoesFormatInt(t *testing.T) {
	for n := 0; n <= 20000; n++ {
		wantParsed(t, impl.FormatInt(n), n)
		wantParsed(t, impl.FormatInt(1000000000-n), 1000000000-n)
	}
	for n := 1; n <= 100; n++ {
		wantNotParsed(t, impl.FormatInt(-n))
		wantNotParsed(t, impl.FormatInt(1000000000+n))
		wantNotParsed(t, impl.FormatInt(math.MaxInt-n))
		wantNotParsed(t, impl.FormatInt(math.MinInt+n))
	}
}

func TestParseUintAboveLimit(t *testing.T) {
	for _, s := range []string{
		"1000000001", "1999999999", "2147483647", "4294967296", "4294967297", "9999999999", "10000000000",
		"9223372036854775807", "9223372036854775808", "18446744073709551615", "18446744073709551616", "18446744073709551617",
		"340282366920938463463374607431768211457", "1" + strings.Repeat("0", 64), strings.Repeat("9", 5000),
	} {
		wantNotParsed(t, s)
	}
}

func TestParseUintLeadingZeros(t *testing.T) {
	for _, s := range []string{"00", "000", "01", "001", "010", "0999999999", "01000000000", "0000000001", "00000000001", strings.Repeat("0", 5000)} {
		wantNotParsed(t, s)
	}
}

func TestParseUintOtherCharacters(t *testing.T) {
	for _, s := range []string{"", "-", "+", "-0", "-1", "+0", "+1", " 1", "1 ", " ", "1 2", "1_000", "1,000", "1.0", "1e3", "0x1", "1a", "a", "１", "1\n", "1\x00", "12/", "12:"} {
		wantNotParsed(t, s)
	}
	for i := 0; i < 256; i++ {
		if i >= '0' && i <= '9' {
			continue
		}
		c := string([]byte{byte(i)})
		for _, s := range []string{c, c + "1", "1" + c, "1" + c + "1"} {
			wantNotParsed(t, s)
		}
	}
}

func wantFields(t *testing.T, line string, want ...string) {
	t.Helper()
	if got, ok := impl.SplitFields(line); !slices.Equal(got, want) || !ok {
		t.Errorf("SplitFields(%q) = %q, %v; want %q, true", line, got, ok, want)
	}
}

func wantNotSplit(t *testing.T, line string) {
	t.Helper()
	if got, ok := impl.SplitFields(line); len(got) != 0 || ok {
		t.Errorf("SplitFields(%q) of length %d = %q, %v; want nil, false", line, len(line), got, ok)
	}
}

func TestSplitFields(t *testing.T) {
	wantFields(t, "step", "step")
	wantFields(t, "step 1", "step", "1")
	wantFields(t, " step  1 ", "step", "1")
	wantFields(t, "   a b   c    d  ", "a", "b", "c", "d")
	wantFields(t, "a a a", "a", "a", "a")
	wantFields(t, "~!\" #$% -1,2;3=4", "~!\"", "#$%", "-1,2;3=4")
}

func TestSplitFieldsWithoutFields(t *testing.T) {
	for _, n := range []int{0, 1, 2, 24, 25, 599, 600} {
		wantFields(t, strings.Repeat(" ", n))
	}
	wantNotSplit(t, strings.Repeat(" ", 601))
}

func TestSplitFieldsLineLength(t *testing.T) {
	wantFields(t, strings.Repeat("x", 599), strings.Repeat("x", 599))
	wantFields(t, strings.Repeat("x", 600), strings.Repeat("x", 600))
	wantNotSplit(t, strings.Repeat("x", 601))
	wantNotSplit(t, strings.Repeat("x", 5000))
	wantFields(t, "a"+strings.Repeat(" ", 598)+"b", "a", "b")
	wantNotSplit(t, "a"+strings.Repeat(" ", 599)+"b")
	wantNotSplit(t, "a"+strings.Repeat(" ", 600))
	wantNotSplit(t, strings.Repeat(" ", 600)+"a")
}

func TestSplitFieldsFieldCount(t *testing.T) {
	fields := strings.Fields(strings.Repeat("ab ", 25))
	for n := 1; n <= 24; n++ {
		wantFields(t, strings.Join(fields[:n], " "), fields[:n]...)
		wantFields(t, " "+strings.Join(fields[:n], "  ")+"  ", fields[:n]...)
	}
	wantNotSplit(t, strings.Join(fields, " "))
	wantNotSplit(t, " "+strings.Join(fields, "  ")+"  ")
	wantNotSplit(t, strings.Repeat("x ", 300))
}

func TestSplitFieldsBytes(t *testing.T) {
	for i := 0; i < 256; i++ {
		c := string([]byte{byte(i)})
		lines := []string{c, c + " a", "a " + c, "a" + c + "b", "a b" + c, " " + c + " "}
		for _, line := range lines {
			if i < 32 || i > 126 {
				wantNotSplit(t, line)
				continue
			}
			wantFields(t, line, slices.DeleteFunc(strings.Split(line, " "), func(f string) bool { return f == "" })...)
		}
	}
	wantNotSplit(t, "é")
	wantNotSplit(t, strings.Repeat("x", 599)+"\x7f")
	wantNotSplit(t, strings.Repeat(" ", 599)+"\x1f")
	wantNotSplit(t, "a\tb")
	wantNotSplit(t, "a b\n")
}

func TestSplitFieldsAllShortLines(t *testing.T) {
	lines := []string{""}
	for length := 0; length < 7; length++ {
		var longer []string
		for _, line := range lines {
			wantFields(t, line, strings.Fields(line)...)
			for _, c := range []string{" ", "a", "~"} {
				longer = append(longer, line+c)
			}
		}
		lines = longer
	}
}

func TestSplitFieldsReturnsNewMemory(t *testing.T) {
	const line = "a b c"
	first, _ := impl.SplitFields(line)
	first[0] = "changed"
	_ = append(first[:1], "changed")
	wantFields(t, line, "a", "b", "c")
}

func TestClamp(t *testing.T) {
	for n := -6; n <= 6; n++ {
		for low := -4; low <= 4; low++ {
			for high := -4; high <= 4; high++ {
				want := n
				if n > high {
					want = high
				}
				if n < low || high < low {
					want = low
				}
				if got := impl.Clamp(n, low, high); got != want {
					t.Errorf("Clamp(%d, %d, %d) = %d; want %d", n, low, high, got, want)
				}
			}
		}
	}
}

func TestClampExtremes(t *testing.T) {
	cases := []struct{ n, low, high, want int }{
		{math.MinInt, -5, 5, -5},
		{math.MaxInt, -5, 5, 5},
		{math.MinInt, math.MinInt, math.MaxInt, math.MinInt},
		{math.MaxInt, math.MinInt, math.MaxInt, math.MaxInt},
		{0, math.MinInt, math.MaxInt, 0},
		{0, math.MaxInt, math.MinInt, math.MaxInt},
		{math.MinInt, math.MaxInt, math.MinInt, math.MaxInt},
		{math.MaxInt, math.MaxInt, math.MinInt, math.MaxInt},
		{math.MaxInt, math.MinInt, math.MinInt, math.MinInt},
		{math.MinInt, math.MaxInt, math.MaxInt, math.MaxInt},
		{7, 5, 1, 5},
		{3, 5, 1, 5},
		{0, 5, 1, 5},
	}
	for _, c := range cases {
		if got := impl.Clamp(c.n, c.low, c.high); got != c.want {
			t.Errorf("Clamp(%d, %d, %d) = %d; want %d", c.n, c.low, c.high, got, c.want)
		}
	}
}

// TestClampIsInRange states the promise itself: the result is in the range if there is one.
func TestClampIsInRange(t *testing.T) {
	values := []int{math.MinInt, math.MinInt + 1, -1000000000, -1, 0, 1, 1000000000, math.MaxInt - 1, math.MaxInt}
	for _, n := range values {
		for _, low := range values {
			for _, high := range values {
				got := impl.Clamp(n, low, high)
				if low <= high && (got < low || got > high) || high < low && got != low {
					t.Errorf("Clamp(%d, %d, %d) = %d", n, low, high, got)
				}
				if low <= n && n <= high && got != n {
					t.Errorf("Clamp(%d, %d, %d) = %d; want %d", n, low, high, got, n)
				}
			}
		}
	}
}
