// Package num is layer 1: see shared/doc/01-num.md.
package num

import "relayhouse/api"

// base is of a length's digits; it is also what is added to each byte that another one follows.
const base = 128

// maxBytes is how many bytes a length has at most.
const maxBytes = 4

// maxWord is the greatest word.
const maxWord = 65535

func isLength(n int) bool { return n >= 0 && n <= api.MaxLen }

func isWord(n int) bool { return n >= 0 && n <= maxWord }

// Size is how many bytes the shortest encoding of a length has, or 0 if n is none.
func Size(n int) int {
	if !isLength(n) {
		return 0
	}
	size := 1
	for ; n >= base; n /= base {
		size++
	}
	return size
}

// Len is the shortest encoding of a length.
func Len(n int) (string, api.Errno) {
	if !isLength(n) {
		return "", api.ErrArg
	}
	b := make([]byte, 0, maxBytes)
	for ; n >= base; n /= base {
		b = append(b, byte(base+n%base))
	}
	b = append(b, byte(n))
	return string(b), api.OK
}

// ReadLen is the length with which bytes begin, and how many bytes encode it.
func ReadLen(s string) (n, used int, e api.Errno) {
	sum, unit := 0, 1
	for i := 0; i < len(s) && i < maxBytes; i++ {
		c := int(s[i])
		sum += (c % base) * unit
		if c < base {
			return sum, i + 1, api.OK
		}
		unit *= base
	}
	// No byte ended the length: more bytes help only if there were too few.
	if len(s) < maxBytes {
		return 0, 0, api.ErrShort
	}
	return 0, 0, api.ErrForm
}

// Words are the encodings of words, one behind the other.
func Words(l ...int) (string, api.Errno) {
	b := make([]byte, 0, 2*len(l))
	for _, n := range l {
		if !isWord(n) {
			return "", api.ErrArg
		}
		b = append(b, byte(n>>8), byte(n))
	}
	return string(b), api.OK
}

// ReadWord is the word with which bytes begin, and how many bytes encode it.
func ReadWord(s string) (n, used int, e api.Errno) {
	if len(s) < 2 {
		return 0, 0, api.ErrShort
	}
	return int(s[0])<<8 + int(s[1]), 2, api.OK
}
