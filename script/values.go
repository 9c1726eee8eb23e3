package script

import (
	"strconv"
	"strings"

	"farebox/api"
	"farebox/bits"
)

const (
	maxDigits = 18
	beyond    = 1000000000000000000 // the least number that takes more digits
	noBytes   = "-"                 // an empty field would be none
)

// readNumber is the number that a text writes, if it writes one in the one way there is.
func readNumber(text string) (int64, bool) {
	digits, below := strings.CutPrefix(text, "-")
	if len(digits) == 0 || len(digits) > maxDigits {
		return 0, false
	}
	if digits[0] == '0' && text != "0" {
		return 0, false
	}
	n := int64(0)
	for _, r := range digits {
		d, ok := digit(r)
		if !ok {
			return 0, false
		}
		n = 10*n + d
	}
	if below {
		return -n, true
	}
	return n, true
}

// digit is what a decimal digit stands for.
func digit(r rune) (int64, bool) {
	if r < '0' || r > '9' {
		return 0, false
	}
	return int64(r - '0'), true
}

// tellNumber writes a number.
func tellNumber(n int64) (string, bool) {
	if n <= -beyond || n >= beyond {
		return "", false
	}
	return strconv.FormatInt(n, 10), true
}

// readBytes are the bytes that a text writes.
func readBytes(text string) ([]byte, bool) {
	if text == noBytes {
		return nil, true
	}
	if text == "" {
		return nil, false
	}
	return bits.Unhex(text)
}

// tellBytes writes bytes. So many that no line has room for them are not written first, to be thrown away then.
func tellBytes(b []byte) (string, bool) {
	if len(b) > api.MaxLine/2 {
		return "", false
	}
	if len(b) == 0 {
		return noBytes, true
	}
	return bits.Hex(b), true
}
