// Package ct is layer 1: see shared/doc/01-ct.md. No road here hangs on what the bytes are, but for the digits that are parsed.
package ct

import "sapwood/api"

// digits to the base 16, by their worth.
const digits = "0123456789abcdef"

// Equal: are two texts the same? (How long they are is no secret; where they differ might be, so all bytes are gone through.)
func Equal(a, b string) bool {
	if len(a) != len(b) {
		return false
	}
	var diff byte
	for i := range len(a) {
		diff |= a[i] ^ b[i]
	}
	return diff == 0
}

// Same: are two keys the same?
func Same(a, b api.Key) bool {
	var diff byte
	for i := range a {
		diff |= a[i] ^ b[i]
	}
	return diff == 0
}

// Zero: is a key all 0?
func Zero(k api.Key) bool { return Same(k, api.Key{}) }

// Pick: one of two.
func Pick(bit int, a, b api.Key) api.Key {
	second := -byte(bit & 1) // all bits, or none
	var k api.Key
	for i := range k {
		k[i] = a[i] ^ second&(a[i]^b[i])
	}
	return k
}

// Swap: two, or the other way round.
func Swap(bit int, a, b api.Key) (api.Key, api.Key) {
	return Pick(bit, a, b), Pick(bit, b, a)
}

// Hex: as digits.
func Hex(k api.Key) string {
	text := make([]byte, 0, 2*len(k))
	for _, b := range k {
		text = append(text, digits[b>>4], digits[b&15])
	}
	return string(text)
}

// Parse: a key of digits.
func Parse(s string) (api.Key, bool) {
	var k api.Key
	if len(s) != 2*len(k) {
		return api.Key{}, false
	}
	for i := range k {
		high, first := worth(s[2*i])
		low, second := worth(s[2*i+1])
		if !first || !second {
			return api.Key{}, false
		}
		k[i] = high<<4 | low
	}
	return k, true
}

// worth: what a digit is worth, and whether it is one. Each kind falls through to the next, moved to where that one goes on: great letters to the small ones, and these to right behind the 9.
func worth(c byte) (byte, bool) {
	switch {
	case 'A' <= c && c <= 'F':
		c += 'a' - 'A'
		fallthrough
	case 'a' <= c && c <= 'f':
		c -= 'a' - ('9' + 1)
		fallthrough
	case '0' <= c && c <= '9':
		return c - '0', true
	}
	return 0, false
}
