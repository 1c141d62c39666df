package derive_test

import (
	"crypto/hkdf"
	"crypto/sha256"
	"math/rand"
	"slices"
	"strings"
	"testing"

	"sapwood/api"
	"sapwood/derive"
	own "sapwood/hkdf"
)

// anyText: so many bytes, any of them.
func anyText(random *rand.Rand, n int) string {
	b := make([]byte, n)
	random.Read(b)
	return string(b)
}

// anyKey: a key of any bytes.
func anyKey(random *rand.Rand) api.Key { return api.Key([]byte(anyText(random, 32))) }

// someKeys: keys of one byte, and any.
func someKeys(random *rand.Rand) []api.Key {
	keys := []api.Key{{}, {1}, {31: 1}, api.Key([]byte(strings.Repeat("\xff", 32)))}
	for range 20 {
		keys = append(keys, anyKey(random))
	}
	return keys
}

// turned: a key with one bit turned.
func turned(k api.Key, bit int) api.Key {
	k[bit/8] ^= 1 << (bit % 8)
	return k
}

// byLibrary: a key of a secret, by the library's HKDF, with the name as salt.
func byLibrary(t *testing.T, name, secret, info string) api.Key {
	t.Helper()
	b, err := hkdf.Key(sha256.New, []byte(secret), []byte(name), info, 32)
	if err != nil {
		t.Fatal(err)
	}
	return api.Key(b)
}

// checkKey: a call answered that.
func checkKey(t *testing.T, what string, got, wanted api.Key) {
	t.Helper()
	if got != wanted {
		t.Errorf("%s is %x, wanted %x", what, got, wanted)
	}
}

// checkApart: no two of these keys are one.
func checkApart(t *testing.T, what string, keys ...api.Key) {
	t.Helper()
	for i, k := range keys {
		if slices.Contains(keys[:i], k) {
			t.Errorf("%s: key %d, %x, came ahead", what, i, k)
		}
	}
}

// P10.1: Label, of names, secrets and parts of any length, also none.
func TestLabel(t *testing.T) {
	random := rand.New(rand.NewSource(1))
	lengths := []int{0, 1, 31, 32, 33, 63, 64, 65, 200}
	for _, n := range lengths {
		for _, m := range lengths {
			for _, l := range lengths {
				name, secret, part := anyText(random, n), anyText(random, m), anyText(random, l)
				wanted := byLibrary(t, name, secret, part)
				checkKey(t, "Label", derive.Label(name, secret, part), wanted)
				checkKey(t, "One of Extract", own.One(own.Extract(name, secret), part), wanted)
			}
		}
	}
}

// P10.1: Label of no parts, and of parts of no bytes.
func TestLabelOfNoParts(t *testing.T) {
	for _, name := range []string{"", "name", "sapwood node"} {
		for _, secret := range []string{"", "secret", strings.Repeat("\x00", 32)} {
			wanted := byLibrary(t, name, secret, "")
			checkKey(t, "Label of no parts", derive.Label(name, secret), wanted)
			checkKey(t, "Label of nil", derive.Label(name, secret, nil...), wanted)
			checkKey(t, "Label of an empty list", derive.Label(name, secret, []string{}...), wanted)
			checkKey(t, "Label of empty parts", derive.Label(name, secret, "", "", ""), wanted)
		}
	}
}

// P10.1: how the bytes are cut into parts plays no part, but their order does.
func TestLabelCuts(t *testing.T) {
	random := rand.New(rand.NewSource(2))
	text := anyText(random, 70)
	wanted := byLibrary(t, "name", "secret", text)
	for i := range len(text) + 1 {
		for k := i; k <= len(text); k++ {
			checkKey(t, "Label, cut", derive.Label("name", "secret", text[:i], text[i:k], text[k:]), wanted)
		}
	}
	long := anyText(random, 3000)
	wanted = byLibrary(t, "name", "secret", long)
	for n := 1; n < 100; n++ {
		var parts []string
		for from := 0; from < len(long); from += n {
			parts = append(parts, long[from:min(from+n, len(long))], "")
		}
		checkKey(t, "Label of many parts", derive.Label("name", "secret", parts...), wanted)
	}
	checkApart(t, "the order of parts", derive.Label("n", "s", "a", "bc"), derive.Label("n", "s", "bc", "a"), derive.Label("n", "s", "c", "b", "a"))
}

// P10.1: name, secret and parts aren't one text, and no two of them may change places.
func TestLabelSides(t *testing.T) {
	checkApart(t, "sides", derive.Label("a", "b", "c"), derive.Label("a", "c", "b"), derive.Label("b", "a", "c"), derive.Label("b", "c", "a"), derive.Label("c", "a", "b"), derive.Label("c", "b", "a"),
		derive.Label("ab", "c"), derive.Label("a", "bc"), derive.Label("", "abc"), derive.Label("abc", ""), derive.Label("", "", "abc"), derive.Label("ab", "", "c"), derive.Label("", "ab", "c"))
}

// P10.1: Node, Leaf and Tag, by the names that the chapter tells.
func TestOfOneKey(t *testing.T) {
	for _, k := range someKeys(rand.New(rand.NewSource(3))) {
		secret := string(k[:])
		checkKey(t, "Node", derive.Node(k), byLibrary(t, "sapwood node", secret, ""))
		checkKey(t, "Node by Label", derive.Label("sapwood node", secret), derive.Node(k))
		checkKey(t, "Leaf", derive.Leaf(k), byLibrary(t, "sapwood leaf", secret, ""))
		checkKey(t, "Leaf by Label", derive.Label("sapwood leaf", secret), derive.Leaf(k))
		checkKey(t, "Tag", derive.Tag(k), byLibrary(t, "sapwood tag", secret, ""))
		checkKey(t, "Tag by Label", derive.Label("sapwood tag", secret), derive.Tag(k))
		checkApart(t, "of one key", k, derive.Node(k), derive.Leaf(k), derive.Tag(k), derive.Stage(k, k, k), derive.Past(k, ""), derive.Label("sapwood stage", secret))
	}
}

// P10.1: Stage, of old's bytes and then tree's, and past's as the part.
func TestStage(t *testing.T) {
	random := rand.New(rand.NewSource(4))
	for _, old := range someKeys(random) {
		for _, tree := range []api.Key{{}, old, anyKey(random)} {
			for _, past := range []api.Key{{}, old, tree, anyKey(random)} {
				secret := string(old[:]) + string(tree[:])
				wanted := byLibrary(t, "sapwood stage", secret, string(past[:]))
				checkKey(t, "Stage", derive.Stage(old, tree, past), wanted)
				checkKey(t, "Stage by Label", derive.Label("sapwood stage", secret, string(past[:])), wanted)
			}
		}
	}
	a, b, c := api.Key{1}, api.Key{2}, api.Key{3}
	checkApart(t, "sides", derive.Stage(a, b, c), derive.Stage(a, c, b), derive.Stage(b, a, c), derive.Stage(b, c, a), derive.Stage(c, a, b), derive.Stage(c, b, a))
}

// P10.1: Past, of old's bytes and the message.
func TestPast(t *testing.T) {
	random := rand.New(rand.NewSource(5))
	for _, old := range someKeys(random) {
		for _, n := range []int{0, 1, 23, 24, 31, 32, 33, 64, 100, 5000} {
			message := anyText(random, n)
			checkKey(t, "Past", derive.Past(old, message), sha256.Sum256([]byte(string(old[:])+message)))
		}
	}
	one := derive.Past(derive.Past(api.Key{}, "a"), "b")
	checkApart(t, "what has been", one, derive.Past(derive.Past(api.Key{}, "b"), "a"), derive.Past(api.Key{}, "ab"), derive.Past(api.Key{}, "ba"), derive.Past(api.Key{}, ""), derive.Past(api.Key{}, "\x00"))
}

// P10.2: each bit of each key plays a part.
func TestEachBit(t *testing.T) {
	a, b, c := api.Key{1, 2}, api.Key{3, 4}, api.Key{5, 6}
	for bit := range 256 {
		checkApart(t, "Node", derive.Node(a), derive.Node(turned(a, bit)))
		checkApart(t, "Leaf", derive.Leaf(a), derive.Leaf(turned(a, bit)))
		checkApart(t, "Tag", derive.Tag(a), derive.Tag(turned(a, bit)))
		checkApart(t, "Past", derive.Past(a, "m"), derive.Past(turned(a, bit), "m"))
		checkApart(t, "Stage", derive.Stage(a, b, c), derive.Stage(turned(a, bit), b, c), derive.Stage(a, turned(b, bit), c), derive.Stage(a, b, turned(c, bit)))
	}
}

// P10.2, Rules: what a call answers hangs on nothing that was called ahead, and is nobody else's memory; what is handed in is left as it was.
func TestNothingIsKept(t *testing.T) {
	wanted := []string{"one", "", "three", "spare"}
	parts := slices.Clone(wanted)
	first := derive.Label("name", "secret", parts[:3]...)
	if !slices.Equal(parts, wanted) {
		t.Errorf("the parts are %q now", parts)
	}
	parts[0] = "other"
	again := derive.Label("name", "secret", wanted[:3]...)
	checkKey(t, "Label again", again, first)
	again[0]++
	checkKey(t, "Label once more", derive.Label("name", "secret", wanted[:3]...), first)
	k := api.Key{7}
	node, leaf, tag, stage, past := derive.Node(k), derive.Leaf(k), derive.Tag(k), derive.Stage(k, k, k), derive.Past(k, "m")
	for range 3 {
		checkKey(t, "Past again", derive.Past(k, "m"), past)
		checkKey(t, "Stage again", derive.Stage(k, k, k), stage)
		checkKey(t, "Tag again", derive.Tag(k), tag)
		checkKey(t, "Leaf again", derive.Leaf(k), leaf)
		checkKey(t, "Node again", derive.Node(k), node)
	}
	checkKey(t, "the key handed in", k, api.Key{7})
}

// P1: no call panics, whatever the texts are.
func TestNoPanic(t *testing.T) {
	texts := []string{"", "\x00", "\xff\xfe", "é", strings.Repeat("\x80", 65), strings.Repeat("界", 1000)}
	for _, a := range texts {
		for _, b := range texts {
			checkKey(t, "Label", derive.Label(a, b, b, a), byLibrary(t, a, b, b+a))
			checkKey(t, "Past", derive.Past(api.Key{1}, a+b), sha256.Sum256([]byte("\x01"+strings.Repeat("\x00", 31)+a+b)))
		}
	}
}
