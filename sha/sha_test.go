package sha_test

import (
	"crypto/sha256"
	"encoding/hex"
	"math/rand"
	"slices"
	"strings"
	"testing"

	"sapwood/api"
	"sapwood/sha"
)

// anyText: so many bytes, any of them.
func anyText(random *rand.Rand, n int) string {
	b := make([]byte, n)
	random.Read(b)
	return string(b)
}

// byLibrary: a text's sum, by the library's SHA-256.
func byLibrary(text string) api.Key { return api.Key(sha256.Sum256([]byte(text))) }

// checkSum: both ways to sum up a text answer that.
func checkSum(t *testing.T, text string, wanted api.Key) {
	t.Helper()
	if got := sha.Sum(text); got != wanted {
		t.Errorf("Sum of %d bytes (%.40q) is %x, wanted %x", len(text), text, got, wanted)
	}
	checkHash(t, sha.New().Write(text), len(text), wanted)
}

// checkHash: a Hash has so many bytes, and that sum.
func checkHash(t *testing.T, h sha.Hash, n int, wanted api.Key) {
	t.Helper()
	if h.Len() != uint64(n) {
		t.Errorf("Len is %d, wanted %d", h.Len(), n)
	}
	if got := h.Sum(); got != wanted {
		t.Errorf("the Hash's Sum of %d bytes is %x, wanted %x", n, got, wanted)
	}
}

// P7.1: the sums that FIPS 180 and its examples tell, and the chapter's own.
func TestKnownSums(t *testing.T) {
	for text, wanted := range map[string]string{
		"":    "e3b0c44298fc1c149afbf4c8996fb92427ae41e4649b934ca495991b7852b855",
		"abc": "ba7816bf8f01cfea414140de5dae2223b00361a396177a9cb410ff61f20015ad",
		"abcdbcdecdefdefgefghfghighijhijkijkljklmklmnlmnomnopnopq":                                                         "248d6a61d20638b8e5c026930c3e6039a33ce45964ff2167f6ecedd419db06c1",
		"abcdefghbcdefghicdefghijdefghijkefghijklfghijklmghijklmnhijklmnoijklmnopjklmnopqklmnopqrlmnopqrsmnopqrstnopqrstu": "cf5b16a778af8380036ce59e7b0492370b249b11e8f07a51afac45037afee9d1",
		"\xbd":                          "68325720aabd7c82f30f554b313d0570c95accbb7dc4b5aae11204c08ffe732b",
		"\xc9\x8c\x8e\x55":              "7abc22c0ae5af26ce93dbb94433a0e0b2e119d014f8e7f65bd56c61ccccd9504",
		strings.Repeat("\x00", 55):      "02779466cdec163811d078815c633f21901413081449002f24aa3e80f0b88ef7",
		strings.Repeat("\x00", 56):      "d4817aa5497628e7c77e6b606107042bbba3130888c5f47a375e6179be789fbb",
		strings.Repeat("\x00", 57):      "65a16cb7861335d5ace3c60718b5052e44660726da4cd13bb745381b235a1785",
		strings.Repeat("\x00", 64):      "f5a5fd42d16a20302798ef6ed309979b43003d2320d9f0e8ea9831a92759fb4b",
		strings.Repeat("\x00", 1000):    "541b3e9daa09b20bf85fa273e5cbd3e80185aa4ec298e765db87742b70138a53",
		strings.Repeat("A", 1000):       "c2e686823489ced2017f6059b8b239318b6364f6dcd835d0a519105a1eadd6e4",
		strings.Repeat("a", 1000000):    "cdc76e5c9914fb9281a1c7e284d73e67f1809a48a497200e046d39ccc7112cd0",
		strings.Repeat("\x00", 1000000): "d29751f2649b32ff572b5e0a9f541ea660a50f94ff0beedfb0b692b924cc8025",
	} {
		b, err := hex.DecodeString(wanted)
		if err != nil || len(b) != 32 {
			t.Fatalf("%s: the test itself is wrong", wanted)
		}
		checkSum(t, text, api.Key(b))
	}
}

// P7.1: of no bytes, however one comes to them: the zero Hash is New's.
func TestNoBytes(t *testing.T) {
	var zero sha.Hash
	empty := byLibrary("")
	if zero != sha.New() {
		t.Error("the zero Hash isn't New's")
	}
	if sha.Sum() != empty || sha.Sum("") != empty || sha.Sum("", "", "") != empty || sha.Sum(nil...) != empty || sha.Sum([]string{}...) != empty {
		t.Error("Sum of nothing isn't that of no bytes")
	}
	for _, h := range []sha.Hash{zero, sha.New(), zero.Write(), zero.Write(""), sha.New().Write("", ""), sha.New().Write(nil...), sha.New().Write().Write("")} {
		checkHash(t, h, 0, empty)
		checkHash(t, h.Write("a", "bc"), 3, byLibrary("abc"))
		checkHash(t, h.Write(strings.Repeat("m", 200)), 200, byLibrary(strings.Repeat("m", 200)))
	}
}

// P7.1: texts of any length, those around the ends of blocks among them.
func TestLengths(t *testing.T) {
	random := rand.New(rand.NewSource(1))
	for n := range 700 {
		for _, text := range []string{strings.Repeat("\x00", n), strings.Repeat("\xff", n), strings.Repeat("\x80", n), anyText(random, n)} {
			checkSum(t, text, byLibrary(text))
		}
	}
	for _, about := range []int{1 << 11, 1 << 13, 1 << 16, 1 << 18, 1 << 21} { // where the number of bits has a byte more, among others
		for _, more := range []int{-65, -64, -9, -8, -1, 0, 1, 55, 56, 63, 64} {
			text := anyText(random, about+more)
			checkSum(t, text, byLibrary(text))
		}
	}
}

// P7.1: a text whose bits are no longer counted by 32 bits.
func TestManyBits(t *testing.T) {
	if testing.Short() {
		t.Skip("half a thousand million bytes")
	}
	part := anyText(rand.New(rand.NewSource(2)), 1<<20)
	wanted, h := sha256.New(), sha.New()
	for range 1 << 9 {
		wanted.Write([]byte(part))
		h = h.Write(part)
	}
	checkHash(t, h, 1<<29, api.Key(wanted.Sum(nil)))
	wanted.Write([]byte("end"))
	checkHash(t, h.Write("end"), 1<<29+3, api.Key(wanted.Sum(nil)))
}

// P7.1: each byte at each place of a block plays a part, with its whole worth.
func TestEachByte(t *testing.T) {
	random := rand.New(rand.NewSource(3))
	for _, n := range []int{1, 55, 64, 100, 130} {
		text := anyText(random, n)
		whole := sha.Sum(text)
		for at := range n {
			for bit := range 8 {
				b := []byte(text)
				b[at] ^= 1 << bit
				got := sha.Sum(string(b))
				if got == whole || got != byLibrary(string(b)) {
					t.Errorf("bit %d of byte %d of %d turned: Sum is %x", bit, at, n, got)
				}
			}
		}
	}
	for b := range 256 {
		for _, n := range []int{1, 3, 64} {
			text := strings.Repeat(string([]byte{byte(b)}), n)
			checkSum(t, text, byLibrary(text))
		}
	}
}

// P7.1: bytes that are 0, or as those that stand behind a text, at its end.
func TestNoughtsCount(t *testing.T) {
	seen := map[api.Key]string{}
	for n := range 140 {
		for _, end := range []string{"", "\x80", "\x80\x00", "\x80\x00\x00\x00\x00\x00\x00\x00\x00"} {
			text := strings.Repeat("\x00", n) + end
			sum := sha.Sum(text)
			if other, ok := seen[sum]; ok && other != text {
				t.Errorf("Sum of %q and %q are one", other, text)
			}
			seen[sum] = text
			checkSum(t, text, byLibrary(text))
		}
	}
}

// P7.1: a Hash stays as it was, whatever is written behind it and however often its sum is asked.
func TestStays(t *testing.T) {
	random := rand.New(rand.NewSource(4))
	for _, n := range []int{0, 1, 55, 56, 63, 64, 65, 127, 128, 200} {
		text := anyText(random, n)
		h := sha.New().Write(text)
		wanted := byLibrary(text)
		for _, m := range []int{0, 1, 63, 64, 65, 128, 300} {
			one, other := anyText(random, m), anyText(random, m)
			first, second := h.Write(one), h.Write(other)
			checkHash(t, h, n, wanted)
			checkHash(t, first, n+m, byLibrary(text+one))
			checkHash(t, second, n+m, byLibrary(text+other))
			checkHash(t, first.Write("x"), n+m+1, byLibrary(text+one+"x"))
			checkHash(t, first, n+m, byLibrary(text+one))
			checkHash(t, h, n, wanted)
		}
	}
	checkHash(t, sha.New(), 0, byLibrary(""))
}

// P7.1: how many bytes there are, ahead of the sum and behind it, after each part.
func TestLen(t *testing.T) {
	h, text := sha.New(), ""
	for i := range 200 {
		part := strings.Repeat("é", i%9) + strings.Repeat("\x00", i%70)
		h, text = h.Write(part), text+part
		checkHash(t, h, len(text), byLibrary(text))
	}
	checkHash(t, h.Write("", "a", "", "bc"), len(text)+3, byLibrary(text+"abc"))
}

// P7.2: cut into two and into three, anywhere.
func TestCuts(t *testing.T) {
	random := rand.New(rand.NewSource(5))
	for _, n := range []int{1, 2, 63, 64, 65, 128, 150} {
		text := anyText(random, n)
		whole := sha.New().Write(text)
		for i := range n + 1 {
			for k := i; k <= n; k++ {
				a, b, c := text[:i], text[i:k], text[k:]
				if sha.Sum(a, b, c) != whole.Sum() || sha.New().Write(a).Write(b, c) != whole || sha.New().Write(a, b).Write(c) != whole || sha.New().Write(a).Write(b).Write(c).Sum() != whole.Sum() {
					t.Fatalf("%d bytes, cut at %d and %d, have another sum", n, i, k)
				}
			}
		}
		checkHash(t, whole, n, byLibrary(text))
	}
}

// P7.2: cut into many, of one length, of any lengths, and with parts of no bytes between.
func TestManyParts(t *testing.T) {
	random := rand.New(rand.NewSource(6))
	text := anyText(random, 5000)
	wanted := byLibrary(text)
	for n := 1; n < 200; n++ {
		var parts []string
		h := sha.New()
		for from := 0; from < len(text); from += n {
			part := text[from:min(from+n, len(text))]
			parts = append(parts, part, "")
			h = h.Write(part)
		}
		checkHash(t, h, len(text), wanted)
		checkHash(t, sha.New().Write(parts...), len(text), wanted)
		if sha.Sum(parts...) != wanted {
			t.Errorf("parts of %d bytes have another sum", n)
		}
	}
	for range 200 {
		var parts []string
		for rest := text; rest != ""; {
			n := min(random.Intn(300), len(rest))
			parts = append(parts, rest[:n])
			rest = rest[n:]
		}
		if sha.Sum(parts...) != wanted {
			t.Errorf("%d parts have another sum", len(parts))
		}
		slices.Reverse(parts)
		if got := sha.Sum(parts...); got != byLibrary(strings.Join(parts, "")) {
			t.Errorf("%d parts, the last one first: %x", len(parts), got)
		}
	}
}

// Rules: what is handed in is left as it was, spare room included, and isn't kept; the same call answers the same again.
func TestNothingIsKept(t *testing.T) {
	wanted := []string{"one", strings.Repeat("two", 40), "three", "spare"}
	parts := slices.Clone(wanted)
	h := sha.New().Write(parts[:3]...)
	sum := sha.Sum(parts[:3]...)
	if !slices.Equal(parts, wanted) {
		t.Errorf("the parts are %q now", parts)
	}
	parts[0], parts[1] = "", "other"
	text := strings.Join(wanted[:3], "")
	checkHash(t, h, len(text), byLibrary(text))
	if sum != byLibrary(text) || sha.Sum(wanted[:3]...) != sum || h.Sum() != h.Sum() {
		t.Error("a call answers another thing than ahead")
	}
	k := h.Sum()
	k[0]++
	checkHash(t, h, len(text), byLibrary(text))
}

// P1: no call panics, whatever the texts are.
func TestNoPanic(t *testing.T) {
	for _, text := range []string{"", "\x00", "\xff\xfe", "é", strings.Repeat("\x80", 64), strings.Repeat("界", 1000)} {
		for _, more := range []string{"", "\x80", strings.Repeat("x", 63), strings.Repeat("\xff", 65)} {
			checkHash(t, sha.Hash{}.Write(text).Write(more, text), 2*len(text)+len(more), byLibrary(text+more+text))
		}
	}
}
