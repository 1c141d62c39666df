// Package limb is layer 2: see shared/doc/02-limb.md.
package limb

import "sapwood/api"

const (
	width = 51           // bits from one limb to the next
	low   = 1<<width - 1 // those bits
	fold  = 19           // what 2^255 is
	tight = 1 << 52      // no limb of a tight element is above it
	loose = 1 << 54      // nor one of a loose element above this
)

// Elem is a number modulo 2^255 - 19.
type Elem [5]uint64

// Of: the number that a key is read as.
func Of(k api.Key) Elem {
	return Elem{
		word(k, 0) & low,
		word(k, 6) >> 3 & low,
		word(k, 12) >> 6 & low,
		word(k, 19) >> 1 & low,
		word(k, 24) >> 12 & low,
	}
}

// word: eight bytes of a key, the lowest first.
func word(k api.Key, from int) uint64 {
	var w uint64
	for i := range 8 {
		w |= uint64(k[from+i]) << (8 * i)
	}
	return w
}

// Small: a small number.
func Small(n uint32) Elem { return Elem{uint64(n)} }

// Tight: is it so?
func (e Elem) Tight() bool { return e.under(tight) }

// Loose: is it so?
func (e Elem) Loose() bool { return e.under(loose) }

// under: is no limb above a bound?
func (e Elem) under(bound uint64) bool {
	for _, l := range e {
		if l > bound {
			return false
		}
	}
	return true
}

// Add: the sum.
func Add(a, b Elem) Elem {
	for i := range a {
		a[i] += b[i]
	}
	return a.carry()
}

// Sub: the difference; a multiple of the modulus is added, so that no limb is below 0. (16 times, as 8 times would be less than 2^54 in each limb.)
func Sub(a, b Elem) Elem {
	const times = 16
	modulus := Elem{low + 1 - fold, low, low, low, low}
	for i := range a {
		a[i] += times*modulus[i] - b[i]
	}
	return a.carry()
}

// Sum: all together.
func Sum(l ...Elem) Elem {
	var sum Elem
	for _, e := range l {
		sum = Add(sum, e)
	}
	return sum
}

// carry: the same number, tight. What a limb has above its width goes one limb up, all at once; what the last one has goes to the first, 19 times. That is tight whatever the limbs are: what a limb gets is at most 19 times 2^13.
func (e Elem) carry() Elem {
	return Elem{
		e[0]&low + fold*(e[4]>>width),
		e[1]&low + e[0]>>width,
		e[2]&low + e[1]>>width,
		e[3]&low + e[2]>>width,
		e[4]&low + e[3]>>width,
	}
}

// least: the same number, from 0 to the modulus less 1, each limb within its width. A loose element is under twice the modulus once it is carried, so the modulus goes off once at most: it does where the number and 19 reach 2^255.
func (e Elem) least() Elem {
	e = e.carry()
	over := (e[0] + fold) >> width
	for _, l := range e[1:] {
		over = (l + over) >> width
	}
	rest := fold * over
	for i, l := range e {
		rest += l
		e[i] = rest & low
		rest >>= width // of the last limb it is over, times 2^255: what goes off
	}
	return e
}

// Key: the number, as bytes.
func (e Elem) Key() api.Key {
	e = e.least()
	words := [4]uint64{
		e[0] | e[1]<<51,
		e[1]>>13 | e[2]<<38,
		e[2]>>26 | e[3]<<25,
		e[3]>>39 | e[4]<<12,
	}
	var k api.Key
	for i := range k {
		k[i] = byte(words[i/8] >> (i % 8 * 8))
	}
	return k
}
