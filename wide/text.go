package wide

import (
	"strconv"
	"strings"
)

const (
	chunkDigits = 19
	chunk       = 10_000_000_000_000_000_000 // the greatest power of ten in a word
)

// digits returns the decimal digits of m.
func (m magnitude) digits() string {
	text := ""
	for {
		quotient, remainder := m.divideByWord(chunk)
		part := strconv.FormatUint(remainder, 10)
		if quotient.isZero() {
			return part + text
		}
		text = strings.Repeat("0", chunkDigits-len(part)) + part + text
		m = quotient
	}
}

// isNumeral says whether s consists of decimal digits, at least one, without leading zeros.
func isNumeral(s string) bool {
	for _, r := range s {
		if r < '0' || r > '9' {
			return false
		}
	}
	return s == "0" || s != "" && s[0] != '0'
}

// read returns the number with these decimal digits, and whether it is a magnitude.
func read(digits string) (magnitude, bool) {
	var m magnitude
	for _, r := range digits {
		var beyond uint64
		if m, beyond = m.scaled(10, uint64(r-'0')); beyond != 0 {
			return magnitude{}, false
		}
	}
	return m, true
}
