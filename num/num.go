// Package num is layer 1: see shared/doc/01-num.md.
package num

import (
	"math"
	"strconv"
	"strings"

	"brougham/api"
)

const (
	digits  = "0123456789abcdef"
	none    = "-" // the text of no bytes
	longest = 10  // digits of the greatest number that is read
)

// Text: a count in decimal digits; of one below 0 the text of 0.
func Text(n int) string {
	return strconv.Itoa(max(n, 0))
}

// Parse: the count below 2^31 that Text writes so.
func Parse(s string) (int, api.Errno) {
	if s == "" || len(s) > longest || len(s) > 1 && s[0] == '0' {
		return 0, api.ErrDigits
	}
	n := int64(0) // holds any number of ten digits, an int may not
	for _, c := range s {
		if c < '0' || c > '9' {
			return 0, api.ErrDigits
		}
		n = 10*n + int64(c-'0')
	}
	if n > math.MaxInt32 {
		return 0, api.ErrDigits
	}
	return int(n), api.OK
}

// Hex: bytes, two digits each; a dash of none.
func Hex(b []byte) string {
	if len(b) == 0 {
		return none
	}
	var text strings.Builder
	text.Grow(2 * len(b))
	for _, x := range b {
		text.WriteByte(digits[x>>4])
		text.WriteByte(digits[x&15])
	}
	return text.String()
}

// Unhex: the bytes that Hex writes so.
func Unhex(s string) ([]byte, api.Errno) {
	if s == none {
		return nil, api.OK
	}
	if s == "" || len(s)%2 != 0 {
		return nil, api.ErrHex
	}
	b := make([]byte, len(s)/2)
	for i, c := range s {
		x, ok := digit(c)
		if !ok {
			return nil, api.ErrHex
		}
		b[i/2] = b[i/2]<<4 | x
	}
	return b, api.OK
}

// digit: what a digit that Hex writes stands for; false: Hex writes none such.
func digit(c rune) (byte, bool) {
	switch {
	case c >= '0' && c <= '9':
		return byte(c - '0'), true
	case c >= 'a' && c <= 'f':
		return byte(c-'a') + 10, true
	}
	return 0, false
}

// Line: pieces that aren't empty, with one blank between.
func Line(l ...string) string {
	var text strings.Builder
	for _, s := range l {
		if s == "" {
			continue
		}
		if text.Len() > 0 {
			text.WriteByte(' ')
		}
		text.WriteString(s)
	}
	return text.String()
}

// Pieces: what stands between blanks, ahead of a #.
func Pieces(s string) []string {
	var l []string
	from, end := 0, len(s)
	for i, c := range s {
		if c == '#' {
			end = i
			break
		}
		if c == ' ' {
			l = keep(l, s[from:i])
			from = i + 1
		}
	}
	return keep(l, s[from:end])
}

// keep: the texts, and behind them one more, unless it is empty.
func keep(l []string, s string) []string {
	if s == "" {
		return l
	}
	return append(l, strings.Clone(s)) // an answer shares no memory with what was handed in
}
