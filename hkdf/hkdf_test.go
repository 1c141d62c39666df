package hkdf_test

import (
	"crypto/hkdf"
	"crypto/hmac"
	"crypto/sha256"
	"encoding/hex"
	"math"
	"math/rand"
	"strings"
	"testing"

	"sapwood/api"
	own "sapwood/hkdf"
	"sapwood/mac"
)

// most: the bytes that one key expands to.
const most = 8160

// anyText: so many bytes, any of them.
func anyText(random *rand.Rand, n int) string {
	b := make([]byte, n)
	random.Read(b)
	return string(b)
}

// anyKey: a key of any bytes.
func anyKey(random *rand.Rand) api.Key { return api.Key([]byte(anyText(random, 32))) }

// filled: a text of one byte, so often.
func filled(b byte, n int) string { return strings.Repeat(string([]byte{b}), n) }

// rising: so many bytes, each one more than that ahead of it.
func rising(first byte, n int) string {
	b := make([]byte, n)
	for i := range b {
		b[i] = first + byte(i)
	}
	return string(b)
}

// fromHex: the bytes that digits tell.
func fromHex(t *testing.T, digits string) string {
	t.Helper()
	b, err := hex.DecodeString(digits)
	if err != nil {
		t.Fatalf("%s: the test itself is wrong", digits)
	}
	return string(b)
}

// extracted: by the library.
func extracted(t *testing.T, salt, secret string) api.Key {
	t.Helper()
	b, err := hkdf.Extract(sha256.New, []byte(secret), []byte(salt))
	if err != nil {
		t.Fatal(err)
	}
	return api.Key(b)
}

// expanded: all that a key expands to, by the library's HMAC and the chapter's words.
func expanded(key api.Key, info string) string {
	var all, last []byte
	for i := 1; i <= 255; i++ {
		h := hmac.New(sha256.New, key[:])
		h.Write(last)
		h.Write([]byte(info))
		h.Write([]byte{byte(i)})
		last = h.Sum(nil)
		all = append(all, last...)
	}
	return string(all)
}

// checkExtract: Extract answers that.
func checkExtract(t *testing.T, salt, secret string, wanted api.Key) {
	t.Helper()
	if got := own.Extract(salt, secret); got != wanted {
		t.Errorf("Extract of %.40q and %.40q is %x, wanted %x", salt, secret, got, wanted)
	}
}

// checkExpand: Expand answers that text, and true.
func checkExpand(t *testing.T, key api.Key, info string, n int, wanted string) {
	t.Helper()
	if got, ok := own.Expand(key, info, n); got != wanted || !ok {
		t.Errorf("Expand of %x and %.40q to %d is %x, %v, wanted %x", key, info, n, got, ok, wanted)
	}
}

// checkRefused: Expand answers no bytes, and false.
func checkRefused(t *testing.T, key api.Key, info string, n int) {
	t.Helper()
	if got, ok := own.Expand(key, info, n); got != "" || ok {
		t.Errorf("Expand to %d is %d bytes, %v", n, len(got), ok)
	}
}

// checkOne: One answers that.
func checkOne(t *testing.T, key api.Key, info string, wanted string) {
	t.Helper()
	if got := own.One(key, info); string(got[:]) != wanted {
		t.Errorf("One of %x and %.40q is %x, wanted %x", key, info, got, wanted)
	}
}

// P9.1, P9.2: RFC 5869's vectors with SHA-256.
func TestKnownKeys(t *testing.T) {
	for _, v := range []struct{ secret, salt, info, key, text string }{
		{filled(0x0b, 22), rising(0, 13), rising(0xf0, 10), "077709362c2e32df0ddc3f0dc47bba6390b6c73bb50f9c3122ec844ad7c2b3e5", "3cb25f25faacd57a90434f64d0362f2a2d2d0a90cf1a5a4c5db02d56ecc4c5bf34007208d5b887185865"},
		{rising(0, 80), rising(0x60, 80), rising(0xb0, 80), "06a6b88c5853361a06104c9ceb35b45cef760014904671014a193f40c15fc244", "b11e398dc80327a1c8e7f78c596a49344f012eda2d4efad8a050cc4c19afa97c59045a99cac7827271cb41c65e590e09da3275600c2f09b8367793a9aca3db71cc30c58179ec3e87c14c01d5c1f3434f1d87"},
		{filled(0x0b, 22), "", "", "19ef24a32c717b167f33a91d6f648bdf96596776afdb6377ac434c1c293ccb04", "8da4e775a563c18f715f802a063c5a31b8a11f5c5ee1879ec3454e5f3c738d2d9d201395faa4b61a96c8"},
	} {
		key := api.Key([]byte(fromHex(t, v.key)))
		text := fromHex(t, v.text)
		checkExtract(t, v.salt, v.secret, key)
		checkExpand(t, key, v.info, len(text), text)
		checkOne(t, key, v.info, text[:32])
	}
}

// P9.1: salts and secrets of any length, also none; the salt is the key, and the secret the text.
func TestExtract(t *testing.T) {
	random := rand.New(rand.NewSource(1))
	lengths := []int{0, 1, 31, 32, 33, 55, 56, 63, 64, 65, 128, 1000}
	for _, n := range lengths {
		for _, m := range lengths {
			salt, secret := anyText(random, n), anyText(random, m)
			checkExtract(t, salt, secret, extracted(t, salt, secret))
			checkExtract(t, salt, secret, mac.Sum(salt, secret))
		}
	}
	if own.Extract("a", "b") == own.Extract("b", "a") || own.Extract("ab", "") == own.Extract("a", "b") {
		t.Error("salt and secret may change places, or be one")
	}
}

// P9.1: the salt of no bytes comes to the same as 32 bytes 0.
func TestNoSalt(t *testing.T) {
	for _, secret := range []string{"", "s", filled(0x0b, 22), filled(7, 100)} {
		wanted := extracted(t, "", secret)
		checkExtract(t, "", secret, wanted)
		checkExtract(t, filled(0, 32), secret, wanted)
	}
}

// P9.2: to few bytes, to as many as there are or hardly fewer, and to all lengths about the end of a tag.
func TestLengths(t *testing.T) {
	key, info := api.Key{1, 2, 3}, "for this"
	all := expanded(key, info)
	for n := range most + 1 {
		if n%32 < 2 || n%32 == 31 || n < 200 || n > most-100 {
			checkExpand(t, key, info, n, all[:n])
		}
	}
}

// P9.2: by the library, of any keys and infos.
func TestAnyKeys(t *testing.T) {
	random := rand.New(rand.NewSource(2))
	for range 300 {
		key, info, n := anyKey(random), anyText(random, random.Intn(300)), random.Intn(1000)
		b, err := hkdf.Expand(sha256.New, key[:], info, n)
		if err != nil {
			t.Fatal(err)
		}
		checkExpand(t, key, info, n, string(b))
	}
	for _, key := range []api.Key{{}, api.Key([]byte(filled(255, 32))), anyKey(random)} {
		for _, n := range []int{0, 1, 30, 31, 32, 54, 55, 56, 63, 64, 65, 100000} {
			info := anyText(random, n)
			all := expanded(key, info)
			checkExpand(t, key, info, most, all)
			checkExpand(t, key, info, 33, all[:33])
			checkOne(t, key, info, all[:32])
		}
	}
}

// P9.2: to no bytes is empty, and true; below that, and above what a byte counts, no bytes, and false.
func TestEnds(t *testing.T) {
	for _, key := range []api.Key{{}, {1}} {
		for _, info := range []string{"", "x", filled(0, 70)} {
			checkExpand(t, key, info, 0, "")
			all := expanded(key, info)
			checkExpand(t, key, info, 1, all[:1])
			checkExpand(t, key, info, most-1, all[:most-1])
			checkExpand(t, key, info, most, all)
			for _, n := range []int{-1, -2, -31, -32, -33, -most, math.MinInt32, math.MinInt, most + 1, most + 31, most + 32, most + 33, 256*32 + 1, 2 * most, 1 << 16, math.MaxInt32, math.MaxInt} {
				checkRefused(t, key, info, n)
			}
		}
	}
}

// P9.2: One is the first 32 bytes of what Expand answers.
func TestOne(t *testing.T) {
	random := rand.New(rand.NewSource(3))
	for n := range 200 {
		key, info := anyKey(random), anyText(random, n)
		text, ok := own.Expand(key, info, 32)
		if !ok || len(text) != 32 {
			t.Fatalf("Expand to 32 is %d bytes, %v", len(text), ok)
		}
		checkOne(t, key, info, text)
		checkOne(t, key, info, expanded(key, info)[:32])
	}
}

// P9.3: what is expanded to fewer bytes is the beginning of what is expanded to more.
func TestBeginnings(t *testing.T) {
	random := rand.New(rand.NewSource(4))
	for _, info := range []string{"", "x", anyText(random, 100)} {
		key := anyKey(random)
		longest, _ := own.Expand(key, info, most)
		last := ""
		for _, n := range []int{0, 1, 2, 31, 32, 33, 63, 64, 65, 96, 1000, 4095, 4096, 8127, 8128, 8129, 8159, 8160} {
			text, ok := own.Expand(key, info, n)
			if !ok || len(text) != n || !strings.HasPrefix(text, last) || !strings.HasPrefix(longest, text) {
				t.Errorf("Expand to %d isn't between that to %d and that to %d", n, len(last), len(longest))
			}
			last = text
		}
	}
}

// P9.2: each bit of the key and of the info plays a part, from the first tag on.
func TestEachBit(t *testing.T) {
	key, info := api.Key{5, 6, 7}, "an info of some bytes"
	wanted, _ := own.Expand(key, info, 64)
	for bit := range 256 {
		other := key
		other[bit/8] ^= 1 << (bit % 8)
		got, _ := own.Expand(other, info, 64)
		if got[:32] == wanted[:32] || got[32:] == wanted[32:] || own.One(other, info) == own.One(key, info) {
			t.Errorf("bit %d of the key plays no part", bit)
		}
	}
	for bit := range 8 * len(info) {
		b := []byte(info)
		b[bit/8] ^= 1 << (bit % 8)
		got, _ := own.Expand(key, string(b), 64)
		if got[:32] == wanted[:32] || got[32:] == wanted[32:] || own.One(key, string(b)) == own.One(key, info) {
			t.Errorf("bit %d of the info plays no part", bit)
		}
	}
	for _, other := range []string{"", info + "\x00", info + "\x01", "\x00" + info, info[1:], info + info} {
		if own.One(key, other) == own.One(key, info) {
			t.Errorf("One of %q and %q are one", other, info)
		}
	}
}

// Rules: a call answers the same again, whatever was called between.
func TestSameAgain(t *testing.T) {
	key, info := api.Key{9}, "again"
	first, _ := own.Expand(key, info, 100)
	tag, one := own.Extract("salt", "secret"), own.One(key, info)
	checkRefused(t, key, info, -1)
	checkRefused(t, key, info, most+1)
	own.Expand(api.Key{8}, "other", most)
	checkExpand(t, key, info, 100, first)
	checkExtract(t, "salt", "secret", tag)
	checkOne(t, key, info, string(one[:]))
}

// P1: no call panics, whatever it is given.
func TestNoPanic(t *testing.T) {
	texts := []string{"", "\x00", "\xff\xfe", "é", filled(0x80, 64), filled(0x80, 65), strings.Repeat("界", 1000)}
	for _, a := range texts {
		for _, b := range texts {
			key := own.Extract(a, b)
			checkExtract(t, a, b, extracted(t, a, b))
			checkOne(t, key, a, expanded(key, a)[:32])
			checkRefused(t, key, b, math.MinInt)
		}
	}
}
