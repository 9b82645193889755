// Package ints puts numbers from 0 on, and texts, as bytes, and gets them back.
package ints

import "math/bits"

const (
	base     = 7   // bits of a digit of a number that is put
	more     = 128 // added to all digits but the last one
	mostPut  = 9   // digits of the greatest number: 63 bits
	bigBytes = 8
)

// Put is the bytes of a number; none of one below 0.
func Put(n int) string {
	if n < 0 {
		return ""
	}
	count := max(1, (bits.Len(uint(n))+base-1)/base)
	b := make([]byte, count)
	for i := range count {
		b[i] = byte(n>>(base*(count-1-i))) | more
	}
	b[count-1] &^= more
	return string(b)
}

// Get is the number that stands at a place as Put puts it, and the place behind it.
func Get(s string, at int) (n, next int, ok bool) {
	// A first digit that is 0, with others behind it, is one too many.
	if at < 0 || at >= len(s) || s[at] == more {
		return 0, 0, false
	}
	for i := range min(mostPut, len(s)-at) {
		d := s[at+i]
		n = n<<base | int(d&^more)
		if d < more {
			return n, at + i + 1, true
		}
	}
	return 0, 0, false
}

// Big is a number as eight bytes; none of one below 0.
func Big(n int) string {
	if n < 0 {
		return ""
	}
	var b [bigBytes]byte
	for i := range bigBytes {
		b[i] = byte(n >> (8 * (bigBytes - 1 - i)))
	}
	return string(b[:])
}

// OfBig is the number that stands at a place as Big puts it.
func OfBig(s string, at int) (n int, ok bool) {
	// With the highest bit it would be no int.
	if at < 0 || at >= len(s) || len(s)-at < bigBytes || s[at] >= 128 {
		return 0, false
	}
	for i := range bigBytes {
		n = n<<8 | int(s[at+i])
	}
	return n, true
}

// PutText is how many bytes a text has, and these.
func PutText(t string) string { return Put(len(t)) + t }

// GetText is the text that stands at a place as PutText puts it, and the place behind it.
func GetText(s string, at int) (t string, next int, ok bool) {
	n, from, ok := Get(s, at)
	if !ok || n > len(s)-from {
		return "", 0, false
	}
	return s[from : from+n], from + n, true
}
