package script

import (
	"strconv"
	"strings"

	"catchment/api"
)

// digits is the two digits of a byte, the higher half first.
const digits = "0123456789abcdef"

// Token is bytes as a token.
func Token(s string) string {
	if s == "" {
		return "-"
	}
	var b strings.Builder
	for i := range len(s) {
		b.WriteByte(digits[s[i]>>4])
		b.WriteByte(digits[s[i]&15])
	}
	return b.String()
}

// FromToken is the bytes of a token.
func FromToken(s string) (string, api.Errno) {
	if s == "-" {
		return "", api.OK
	}
	if s == "" || len(s)%2 > 0 {
		return "", api.ErrForm
	}
	b := make([]byte, 0, len(s)/2)
	for i := 0; i < len(s); i += 2 {
		high, low := strings.IndexByte(digits, s[i]), strings.IndexByte(digits, s[i+1])
		if high < 0 || low < 0 {
			return "", api.ErrForm
		}
		b = append(b, byte(high<<4|low))
	}
	return string(b), api.OK
}

// inRange: may a number stand in a script?
func inRange(n int) bool { return n >= -api.MaxNum && n <= api.MaxNum }

// number is the number that a word is, if it is written as one is printed.
func number(s string) (int, bool) {
	n, err := strconv.Atoi(s)
	if err != nil || !inRange(n) || strconv.Itoa(n) != s {
		return 0, false
	}
	return n, true
}

// delta is the number of an Add that a word is.
func delta(s string) (uint64, bool) {
	n, err := strconv.ParseUint(s, 10, 64)
	if err != nil || strconv.FormatUint(n, 10) != s {
		return 0, false
	}
	return n, true
}
