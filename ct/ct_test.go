package ct_test

import (
	"math"
	"math/rand"
	"strings"
	"testing"

	"sapwood/api"
	"sapwood/ct"
)

// filled: a key whose bytes are all one.
func filled(b byte) api.Key {
	var k api.Key
	for i := range k {
		k[i] = b
	}
	return k
}

// counted: a key whose bytes all differ.
func counted(from byte) api.Key {
	var k api.Key
	for i := range k {
		k[i] = from + byte(i)
	}
	return k
}

// text: a key's bytes.
func text(k api.Key) string { return string(k[:]) }

// checkKeys: do Same, Zero (of what they differ by) and Equal (of the keys' bytes) say what is wanted?
func checkKeys(t *testing.T, a, b api.Key, wanted bool) {
	t.Helper()
	if ct.Same(a, b) != wanted || ct.Same(b, a) != wanted {
		t.Errorf("Same of %x and %x isn't %v", a, b, wanted)
	}
	if ct.Equal(text(a), text(b)) != wanted || ct.Equal(text(b), text(a)) != wanted {
		t.Errorf("Equal of %x and %x isn't %v", a, b, wanted)
	}
	diff := a
	for i := range diff {
		diff[i] ^= b[i]
	}
	if ct.Zero(diff) != wanted {
		t.Errorf("Zero of %x isn't %v", diff, wanted)
	}
}

// P1.1: two keys that differ in one bit alone, whichever, aren't the same.
func TestOneBitDiffers(t *testing.T) {
	for _, a := range []api.Key{{}, counted(7), filled(255)} {
		checkKeys(t, a, a, true)
		for bit := range 256 {
			b := a
			b[bit/8] ^= 1 << (bit % 8)
			checkKeys(t, a, b, false)
		}
	}
}

// P1.1: differences that, put together in another way than by or, would leave nothing.
func TestManyBytesDiffer(t *testing.T) {
	a := counted(100)
	for by := 1; by < 256; by++ {
		all, two := a, a
		for i := range all {
			all[i] ^= byte(by)
		}
		two[3] ^= byte(by)
		two[29] ^= byte(by)
		checkKeys(t, a, all, false)
		checkKeys(t, a, two, false)
		more, less := a, a
		more[0] += byte(by)
		more[1] -= byte(by)
		less[30]--
		less[31] += byte(by)
		checkKeys(t, a, more, false)
		checkKeys(t, a, less, false)
	}
	checkKeys(t, filled(0), filled(255), false)
	checkKeys(t, counted(0), counted(1), false)
	b := a
	b[0], b[1] = b[1], b[0]
	checkKeys(t, a, b, false)
}

// P1.1: texts of any bytes and of any length.
func TestEqualTexts(t *testing.T) {
	texts := []string{"", "\x00", "\x00\x00", "a", "A", "a\x00", "\x00a", "b", "ab", "ba", "abc", "abd", "bbc", "aab", "\xff", "\xff\xfe", "\xef\xbf\xbd",
		"é", "e\u0301", "É", strings.Repeat("x", 255), strings.Repeat("x", 256), strings.Repeat("x", 257), strings.Repeat("y", 256)}
	for i, a := range texts {
		for k, b := range texts {
			if got := ct.Equal(a, b); got != (i == k) {
				t.Errorf("Equal(%q, %q) is %v", a, b, got)
			}
		}
	}
	for _, n := range []int{1, 2, 255, 256, 257, 512, 65536, 100000} {
		a := strings.Repeat("m", n)
		for _, b := range []string{strings.Repeat("l", n), "n" + a[1:], a[1:] + "n", a[:n/2] + "M" + a[n/2+1:]} {
			if ct.Equal(a, b) || ct.Equal(b, a) {
				t.Errorf("texts of %d bytes that differ are Equal", n)
			}
		}
		if !ct.Equal(a, strings.Clone(a)) || ct.Equal(a, a[1:]) || ct.Equal(a[1:], a) || ct.Equal(a, a+"m") {
			t.Errorf("texts of about %d bytes: not what Equal is", n)
		}
	}
}

// P1.1: Zero of keys that are filled in one place or in all.
func TestZero(t *testing.T) {
	if !ct.Zero(api.Key{}) {
		t.Error("the zero key isn't Zero")
	}
	for by := 1; by < 256; by++ {
		if ct.Zero(filled(byte(by))) {
			t.Errorf("a key full of %d is Zero", by)
		}
		for i := range 32 {
			var k api.Key
			k[i] = byte(by)
			if ct.Zero(k) {
				t.Errorf("a key with %d at %d is Zero", by, i)
			}
		}
	}
}

// P1.2: the lowest bit alone says which, of negative numbers too.
func TestPickAndSwap(t *testing.T) {
	bits := map[int]bool{0: false, 1: true, 2: false, 3: true, 4: false, 127: true, 128: false, 254: false, 255: true, 256: false, 257: true, 1 << 31: false, 1<<32 + 1: true,
		-1: true, -2: false, -3: true, -4: false, -255: true, -256: false, -257: true, math.MaxInt: true, math.MaxInt - 1: false, math.MinInt: false, math.MinInt + 1: true}
	pairs := [][2]api.Key{{{}, filled(255)}, {filled(255), {}}, {counted(1), counted(200)}, {{1}, {2}}, {{31: 128}, {31: 1}}, {filled(0x55), filled(0xaa)}, {counted(9), counted(9)}}
	for bit, second := range bits {
		for _, p := range pairs {
			first, other := p[0], p[1]
			if second {
				first, other = other, first
			}
			if got := ct.Pick(bit, p[0], p[1]); got != first {
				t.Errorf("Pick(%d, %x, %x) is %x", bit, p[0], p[1], got)
			}
			if x, y := ct.Swap(bit, p[0], p[1]); x != first || y != other {
				t.Errorf("Swap(%d, %x, %x) is %x, %x", bit, p[0], p[1], x, y)
			}
		}
	}
}

// P1.3: each byte at each place has its two digits there, small, the higher half first.
func TestHex(t *testing.T) {
	const small = "0123456789abcdef"
	if got := ct.Hex(api.Key{}); got != strings.Repeat("0", 64) {
		t.Errorf("Hex of the zero key is %q", got)
	}
	for at := range 32 {
		for b := range 256 {
			var k api.Key
			k[at] = byte(b)
			wanted := strings.Repeat("00", at) + string([]byte{small[b/16], small[b%16]}) + strings.Repeat("00", 31-at)
			if got := ct.Hex(k); got != wanted {
				t.Errorf("Hex of %d at %d is %q", b, at, got)
			}
		}
	}
	if got := ct.Hex(counted(0xea)); got != "eaebecedeeeff0f1f2f3f4f5f6f7f8f9fafbfcfdfeff00010203040506070809" {
		t.Errorf("Hex of many bytes is %q", got)
	}
}

// parsed: Parse answers that key and true.
func parsed(t *testing.T, s string, wanted api.Key) {
	t.Helper()
	if got, ok := ct.Parse(s); !ok || got != wanted {
		t.Errorf("Parse(%q) is %x, %v", s, got, ok)
	}
}

// refused: Parse answers the zero key and false.
func refused(t *testing.T, s string) {
	t.Helper()
	if got, ok := ct.Parse(s); ok || got != (api.Key{}) {
		t.Errorf("Parse(%q) is %x, %v", s, got, ok)
	}
}

// P1.3: great letters and small ones, also both in one text.
func TestParse(t *testing.T) {
	const s = "0123456789abcdef0f1e2d3c4b5a69788796a5b4c3d2e1f0fedcba9876543210"
	k := api.Key{0x01, 0x23, 0x45, 0x67, 0x89, 0xab, 0xcd, 0xef, 0x0f, 0x1e, 0x2d, 0x3c, 0x4b, 0x5a, 0x69, 0x78,
		0x87, 0x96, 0xa5, 0xb4, 0xc3, 0xd2, 0xe1, 0xf0, 0xfe, 0xdc, 0xba, 0x98, 0x76, 0x54, 0x32, 0x10}
	parsed(t, s, k)
	parsed(t, strings.ToUpper(s), k)
	parsed(t, strings.ToUpper(s[:31])+s[31:], k)
	parsed(t, s[:31]+strings.ToUpper(s[31:]), k)
	parsed(t, strings.Repeat("0", 64), api.Key{})
	parsed(t, strings.Repeat("F", 64), filled(255))
	parsed(t, strings.Repeat("fF", 32), filled(255))
}

// P1.3: any byte at any place: is it a digit, and what is it worth there?
func TestParseEachDigit(t *testing.T) {
	const small, great = "0123456789abcdef", "0123456789ABCDEF"
	base := counted(0x17)
	for at := range 64 {
		for c := range 256 {
			s := []byte(ct.Hex(base))
			s[at] = byte(c)
			n := max(strings.IndexByte(small, byte(c)), strings.IndexByte(great, byte(c)))
			if n < 0 {
				refused(t, string(s))
				continue
			}
			wanted := base
			if at%2 == 0 {
				wanted[at/2] = byte(n)<<4 | base[at/2]&15
			} else {
				wanted[at/2] = base[at/2]&0xf0 | byte(n)
			}
			parsed(t, string(s), wanted)
		}
	}
}

// P1.3: texts of another length, though all their bytes are digits, and texts of 64 bytes that aren't.
func TestParseRefuses(t *testing.T) {
	for n := range 200 {
		if n != 64 {
			refused(t, strings.Repeat("a", n))
			refused(t, strings.Repeat("0", n))
		}
	}
	whole := strings.Repeat("4b", 32)
	for _, s := range []string{whole + "\n", " " + whole, whole + "\x00", "0x" + whole, "0x" + whole[2:], "0X" + whole[2:], "+" + whole[1:], "-" + whole[1:], whole[1:] + " ", whole[:31] + "_" + whole[32:],
		whole + whole, whole[:62] + "é", "é" + whole[2:], "é" + whole[1:], "1" + whole[4:] + "１", strings.Repeat("g", 64), strings.Repeat("G", 64), strings.Repeat("\x00", 64), strings.Repeat("\xff", 64), strings.Repeat("é", 32), strings.Repeat("a", 1<<20)} {
		refused(t, s)
	}
}

// P1.4: Parse of Hex is the key.
func TestParseOfHex(t *testing.T) {
	random := rand.New(rand.NewSource(1))
	for range 2000 {
		var k api.Key
		random.Read(k[:])
		parsed(t, ct.Hex(k), k)
		parsed(t, strings.ToUpper(ct.Hex(k)), k)
	}
	for by := range 256 {
		parsed(t, ct.Hex(filled(byte(by))), filled(byte(by)))
	}
}

// Rules: what is handed in is left as it was, and the same call answers the same again.
func TestNothingIsKept(t *testing.T) {
	a, b := counted(3), filled(9)
	one, _ := ct.Swap(1, a, b)
	one[0], one[31] = 77, 78
	s := ct.Hex(b)
	refused(t, s[1:])
	refused(t, "x"+s[1:])
	parsed(t, s, filled(9))
	if a != counted(3) || b != filled(9) || ct.Pick(1, a, b) != b || ct.Pick(0, a, b) != a || ct.Hex(b) != s {
		t.Error("a call changed something")
	}
}

// P1: no call panics, whatever it is given.
func TestNoPanic(t *testing.T) {
	texts := []string{"", "\x00", "\xff\xfe", strings.Repeat("\x80", 64), strings.Repeat("0", 63), strings.Repeat("0", 65), strings.Repeat("界", 1000)}
	keys := []api.Key{{}, filled(255), counted(0)}
	for _, bit := range []int{0, 1, -1, math.MaxInt, math.MinInt} {
		for _, a := range keys {
			for _, b := range keys {
				ct.Pick(bit, a, b)
				ct.Swap(bit, a, b)
				ct.Same(a, b)
			}
			ct.Zero(a)
			ct.Hex(a)
		}
	}
	for _, a := range texts {
		for _, b := range texts {
			ct.Equal(a, b)
		}
		ct.Parse(a)
	}
}
