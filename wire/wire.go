// Package wire is layer 1: it encodes integers and strings as bytes, decodes them, and computes checksums.
// See shared/doc/01-wire.md.
package wire

import "slatewall/api"

const (
	// more is how many values a group of 7 bits has. It is added to every byte of an encoding but the last one.
	more = 128
	// maxGroups is how many groups of 7 bits the greatest integer has: its z is less than 2^63.
	maxGroups = 9
	// maxFolded is the z of MaxInt. The z of -MaxInt is one less, and the next greater one, an odd number, is that of no integer in range.
	maxFolded = 2 * api.MaxInt
)

// PutInt returns the encoding of n, or ErrWire if n is not from -MaxInt to MaxInt.
func PutInt(n int) (string, api.Errno) {
	if n < -api.MaxInt || n > api.MaxInt {
		return "", api.ErrWire
	}
	code := make([]byte, 0, maxGroups)
	for group, last := range groups(fold(n)) {
		if !last {
			group += more
		}
		code = append(code, group)
	}
	return string(code), api.OK
}

// Int decodes the integer whose encoding begins at offset at of s, and returns it and the offset behind the encoding.
func Int(s string, at int) (int, int, api.Errno) {
	if !isOffset(s, at) {
		return 0, 0, api.ErrArg
	}
	z, next, ok := joinGroups(s, at)
	if !ok || z > maxFolded {
		return 0, 0, api.ErrWire
	}
	return unfold(z), next, api.OK
}

// PutString returns the encoding of s, or ErrWire if s has more than MaxString bytes.
func PutString(s string) (string, api.Errno) {
	if len(s) > api.MaxString {
		return "", api.ErrWire
	}
	length, e := PutInt(len(s))
	if e != api.OK {
		return "", e
	}
	return length + s, api.OK
}

// String decodes the string whose encoding begins at offset at of s, and returns it and the offset behind the encoding.
func String(s string, at int) (string, int, api.Errno) {
	length, first, e := Int(s, at)
	if e != api.OK {
		return "", 0, e
	}
	if length < 0 || length > api.MaxString || length > len(s)-first {
		return "", 0, api.ErrWire
	}
	next := first + length
	// The bytes are copied, because a part of s would keep all of s in memory.
	return string([]byte(s[first:next])), next, api.OK
}

// isOffset says whether at is an offset into s; the end of s is one.
func isOffset(s string, at int) bool {
	return 0 <= at && at <= len(s)
}

// fold returns the z of n: the sign goes into the lowest bit, so that integers near 0 have few groups.
func fold(n int) uint64 {
	if n < 0 {
		return 2*uint64(-n) - 1
	}
	return 2 * uint64(n)
}

// unfold returns the n whose z is given; z is at most maxFolded.
func unfold(z uint64) int {
	half := int(z / 2)
	if z%2 == 1 {
		return -half - 1
	}
	return half
}

// groups ranges over the groups of 7 bits of z, the least significant one first, and says of each whether it is the last one.
func groups(z uint64) func(yield func(group byte, last bool) bool) {
	return func(yield func(group byte, last bool) bool) {
		rest := z
		for rest >= more {
			if !yield(byte(rest%more), false) {
				return
			}
			rest /= more
		}
		yield(byte(rest), true)
	}
}

// joinGroups puts the groups together that begin at offset at of s, and returns the offset behind them.
// It returns false if s ends before the groups do, if there are more of them than any integer has, or if the last one is a superfluous zero.
func joinGroups(s string, at int) (uint64, int, bool) {
	var z uint64
	for i := range min(maxGroups, len(s)-at) {
		b := s[at+i]
		z += uint64(b%more) << (7 * i)
		if b < more {
			superfluous := b == 0 && i > 0
			return z, at + i + 1, !superfluous
		}
	}
	return 0, 0, false
}
