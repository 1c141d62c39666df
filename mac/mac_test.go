package mac_test

import (
	"crypto/hmac"
	"crypto/sha256"
	"encoding/hex"
	"math/rand"
	"slices"
	"strings"
	"testing"

	"sapwood/api"
	"sapwood/mac"
)

// anyText: so many bytes, any of them.
func anyText(random *rand.Rand, n int) string {
	b := make([]byte, n)
	random.Read(b)
	return string(b)
}

// filled: a text of one byte, so often.
func filled(b byte, n int) string { return strings.Repeat(string([]byte{b}), n) }

// turned: a tag with one bit turned.
func turned(k api.Key, bit int) api.Key {
	k[bit/8] ^= 1 << (bit % 8)
	return k
}

// byLibrary: a text's tag, by the library's HMAC.
func byLibrary(key, text string) api.Key {
	h := hmac.New(sha256.New, []byte(key))
	h.Write([]byte(text))
	return api.Key(h.Sum(nil))
}

// checkTag: Sum answers that, and Check says that it is that.
func checkTag(t *testing.T, wanted api.Key, key string, parts ...string) {
	t.Helper()
	if got := mac.Sum(key, parts...); got != wanted {
		t.Errorf("Sum of %.40q and %.40q is %x, wanted %x", key, parts, got, wanted)
	}
	checkCheck(t, true, wanted, key, parts...)
}

// checkCheck: Check says that.
func checkCheck(t *testing.T, wanted bool, tag api.Key, key string, parts ...string) {
	t.Helper()
	if got := mac.Check(key, tag, parts...); got != wanted {
		t.Errorf("Check of %.40q, %x and %.40q is %v", key, tag, parts, got)
	}
}

// P8.1: RFC 4231's vectors (all but the one that is cut off), and of no key and no bytes.
func TestKnownTags(t *testing.T) {
	for _, v := range [][3]string{
		{"", "", "b613679a0814d9ec772f95d778c35fc5ff1697c493715653c6c712144292c5ad"},
		{filled(0x0b, 20), "Hi There", "b0344c61d8db38535ca8afceaf0bf12b881dc200c9833da726e9376c2e32cff7"},
		{"Jefe", "what do ya want for nothing?", "5bdcc146bf60754e6a042426089575c75a003f089d2739839dec58b964ec3843"},
		{filled(0xaa, 20), filled(0xdd, 50), "773ea91e36800e46854db8ebd09181a72959098b3ef8c122d9635514ced565fe"},
		{"\x01\x02\x03\x04\x05\x06\x07\x08\x09\x0a\x0b\x0c\x0d\x0e\x0f\x10\x11\x12\x13\x14\x15\x16\x17\x18\x19", filled(0xcd, 50), "82558a389a443c0ea4cc819899f2083a85f0faa3e578f8077a2e3ff46729665b"},
		{filled(0xaa, 131), "Test Using Larger Than Block-Size Key - Hash Key First", "60e431591ee0b67f0d8a26aacbf5b77f8e0bc6213728c5140546040f0ee37f54"},
		{filled(0xaa, 131), "This is a test using a larger than block-size key and a larger than block-size data. The key needs to be hashed before being used by the HMAC algorithm.", "9b09ffa71b942fcb27635fbcd5b0e944bfdc63644f0713938a7f51535c3a35e2"},
	} {
		b, err := hex.DecodeString(v[2])
		if err != nil || len(b) != 32 {
			t.Fatalf("%s: the test itself is wrong", v[2])
		}
		checkTag(t, api.Key(b), v[0], v[1])
	}
}

// P8.1: Block of keys of any length: the key's bytes, or its sum's, and then bytes 0; always 64.
func TestBlock(t *testing.T) {
	random := rand.New(rand.NewSource(1))
	for n := range 300 {
		for _, key := range []string{filled(0, n), filled(255, n), anyText(random, n)} {
			head := key
			if n > 64 {
				sum := sha256.Sum256([]byte(key))
				head = string(sum[:])
			}
			if got := mac.Block(key); got != head+filled(0, 64-len(head)) {
				t.Errorf("Block of %d bytes (%.40q) is %q", n, key, got)
			}
		}
	}
	long := anyText(random, 1<<20)
	sum := sha256.Sum256([]byte(long))
	if got := mac.Block(long); got != string(sum[:])+filled(0, 32) {
		t.Errorf("Block of a long key is %q", got)
	}
	for _, key := range []string{"", "k", filled(7, 63), filled(7, 64), filled(7, 65), long} {
		if block := mac.Block(key); mac.Block(block) != block {
			t.Errorf("Block of a Block of %d bytes is another one", len(key))
		}
	}
}

// P8.1: keys and texts of any length.
func TestLengths(t *testing.T) {
	random := rand.New(rand.NewSource(2))
	for n := range 200 {
		for _, m := range []int{0, 1, 8, 55, 56, 63, 64, 65, 119, 120, 128, 1000} {
			key, text := anyText(random, n), anyText(random, m)
			checkTag(t, byLibrary(key, text), key, text)
		}
	}
	for m := range 400 {
		for _, n := range []int{0, 32, 63, 64, 65} {
			key, text := anyText(random, n), anyText(random, m)
			checkTag(t, byLibrary(key, text), key, text)
		}
	}
	long, text := anyText(random, 100000), anyText(random, 1<<20)
	checkTag(t, byLibrary(long, text), long, text)
}

// P8.1: bytes 0 behind a key count for nothing up to 64 bytes, and do beyond that.
func TestNoughtsBehindTheKey(t *testing.T) {
	random := rand.New(rand.NewSource(3))
	for _, n := range []int{0, 1, 31, 63, 64} {
		key := anyText(random, n)
		wanted := mac.Sum(key, "text")
		for more := range 70 {
			longer := key + filled(0, more)
			checkTag(t, byLibrary(longer, "text"), longer, "text")
			if (mac.Sum(longer, "text") == wanted) != (n+more <= 64) {
				t.Errorf("a key of %d bytes, and %d bytes 0: not what Sum is", n, more)
			}
		}
		checkTag(t, wanted, mac.Block(key), "text")
	}
	long := filled(9, 65)
	sum := sha256.Sum256([]byte(long))
	checkTag(t, mac.Sum(long, "text"), string(sum[:]), "text")
}

// P8.1: no parts, no bytes.
func TestNoBytes(t *testing.T) {
	for _, key := range []string{"", "key", filled(1, 64), filled(1, 65)} {
		wanted := byLibrary(key, "")
		checkTag(t, wanted, key)
		checkTag(t, wanted, key, "")
		checkTag(t, wanted, key, "", "", "")
		checkTag(t, wanted, key, nil...)
		checkTag(t, wanted, key, []string{}...)
	}
}

// P8.2: a tag of which one bit is turned, whichever, isn't one; nor is one of which many are.
func TestTurnedTags(t *testing.T) {
	random := rand.New(rand.NewSource(4))
	for _, n := range []int{0, 5, 64, 65} {
		key, text := anyText(random, n), anyText(random, 3*n)
		tag := mac.Sum(key, text)
		checkCheck(t, true, tag, key, text)
		for bit := range 256 {
			checkCheck(t, false, turned(tag, bit), key, text)
			checkCheck(t, false, turned(turned(tag, bit), (bit+1)%256), key, text)
			checkCheck(t, false, turned(turned(tag, bit), (bit+8)%256), key, text)
		}
		for by := 1; by < 256; by++ {
			other := tag
			for i := range other {
				other[i] ^= byte(by)
			}
			checkCheck(t, false, other, key, text)
		}
		moved := tag
		slices.Reverse(moved[:])
		checkCheck(t, false, moved, key, text)
		checkCheck(t, false, api.Key{}, key, text)
	}
}

// P8.1: a tag is of its key and its bytes alone: of others it isn't one.
func TestOthersTags(t *testing.T) {
	key, text := "a key", "a text, of some bytes"
	tag := mac.Sum(key, text)
	for _, other := range []string{"", "a keY", "a ke", "a key1", "\x00a key", text} {
		checkCheck(t, false, tag, other, text)
	}
	for _, other := range []string{"", "a text, of some byteS", text[1:], text + "\x00", text + text, "\x00" + text, key} {
		checkCheck(t, false, tag, key, other)
	}
	checkCheck(t, false, tag, text, key)
	checkCheck(t, false, tag, key+text[:1], text[1:])
	checkCheck(t, false, tag, key, text[1:], text[:1])
	checkCheck(t, false, tag, key, text, text)
	checkCheck(t, false, tag, key)
	for bit := range 8 * 65 {
		for _, k := range []string{filled(0x33, 65), filled(0x33, 130)} {
			b := []byte(k)
			b[bit/8] ^= 1 << (bit % 8)
			checkCheck(t, false, mac.Sum(k, text), string(b), text)
			checkTag(t, byLibrary(string(b), text), string(b), text)
		}
	}
}

// P8.2: cut into two and into three anywhere, and into many.
func TestCuts(t *testing.T) {
	random := rand.New(rand.NewSource(5))
	for _, n := range []int{1, 2, 64, 70} {
		key, text := anyText(random, 2*n), anyText(random, n)
		wanted := byLibrary(key, text)
		for i := range n + 1 {
			for k := i; k <= n; k++ {
				checkTag(t, wanted, key, text[:i], text[i:k], text[k:])
				checkCheck(t, false, turned(wanted, i), key, text[:i], text[i:k], text[k:])
			}
			checkTag(t, wanted, key, text[:i], text[i:])
		}
	}
	text := anyText(random, 3000)
	wanted := byLibrary("key", text)
	for n := 1; n < 150; n++ {
		var parts []string
		for from := 0; from < len(text); from += n {
			parts = append(parts, text[from:min(from+n, len(text))], "")
		}
		checkTag(t, wanted, "key", parts...)
	}
}

// Rules: what is handed in is left as it was, spare room included; the same call answers the same again.
func TestNothingIsKept(t *testing.T) {
	wanted := []string{"one", strings.Repeat("two", 40), "three", "spare"}
	parts := slices.Clone(wanted)
	tag := mac.Sum("key", parts[:3]...)
	given := tag
	checkCheck(t, true, given, "key", parts[:3]...)
	checkCheck(t, false, turned(given, 0), "key", parts[:3]...)
	if !slices.Equal(parts, wanted) || given != tag {
		t.Errorf("the parts are %q now, the tag %x", parts, given)
	}
	parts[0] = "other"
	checkTag(t, tag, "key", wanted[:3]...)
	checkCheck(t, false, tag, "key", parts[:3]...)
}

// P1: no call panics, whatever the texts are.
func TestNoPanic(t *testing.T) {
	texts := []string{"", "\x00", "\xff\xfe", "é", filled(0x80, 64), filled(0x80, 65), strings.Repeat("界", 1000)}
	for _, key := range texts {
		mac.Block(key)
		for _, text := range texts {
			checkTag(t, byLibrary(key, text+key), key, text, key)
		}
	}
}
