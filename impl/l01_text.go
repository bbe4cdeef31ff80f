package impl

import (
	"strconv"
	"strings"
)

const (
	MaxInputLen      = 20000
	MaxUint          = 1000000000
	MaxLineLen       = 600
	MaxFieldsPerLine = 24
)

const (
	hexDigits     = "0123456789abcdef"
	leastLineByte = 32
	lastLineByte  = 126
)

func EncodeHex(s string) (string, bool) {
	if len(s) > MaxInputLen {
		return "", false
	}
	digits := make([]byte, 0, 2*len(s))
	for i := 0; i < len(s); i++ {
		digits = append(digits, hexDigits[s[i]>>4], hexDigits[s[i]&15])
	}
	return string(digits), true
}

func DecodeHex(s string) (string, bool) {
	if len(s)%2 != 0 || len(s) > 2*MaxInputLen {
		return "", false
	}
	decoded := make([]byte, 0, len(s)/2)
	for i := 0; i < len(s); i += 2 {
		high := strings.IndexByte(hexDigits, s[i])
		low := strings.IndexByte(hexDigits, s[i+1])
		if high < 0 || low < 0 {
			return "", false
		}
		decoded = append(decoded, byte(high<<4|low))
	}
	return string(decoded), true
}

func FormatInt(n int) string {
	return strconv.Itoa(n)
}

func ParseUint(s string) (int, bool) {
	n, err := strconv.Atoi(s)
	// Atoi also reads a sign and leading zeros, which FormatInt does not write back.
	if err != nil || n < 0 || n > MaxUint || FormatInt(n) != s {
		return 0, false
	}
	return n, true
}

func SplitFields(line string) ([]string, bool) {
	if len(line) > MaxLineLen {
		return nil, false
	}
	fields := []string{}
	start := 0
	valid := true
scan:
	for i := 0; i < len(line); i++ {
		switch b := line[i]; {
		case b < leastLineByte || b > lastLineByte:
			valid = false
			break scan
		case b == ' ':
			fields = appendField(fields, line[start:i])
			start = i + 1
		}
	}
	fields = appendField(fields, line[start:])
	if !valid || len(fields) > MaxFieldsPerLine {
		return nil, false
	}
	return fields, true
}

// appendField skips the empty text between two adjacent spaces. It copies the
// field because a result shares no memory with an argument.
func appendField(fields []string, text string) []string {
	if text == "" {
		return fields
	}
	return append(fields, strings.Clone(text))
}

func Clamp(n int, low int, high int) int {
	return max(low, min(n, high))
}
