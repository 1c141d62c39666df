package node_test

import (
	"crypto/ecdh"
	"crypto/hkdf"
	"crypto/sha256"
	"encoding/hex"
	"math/rand"
	"slices"
	"testing"

	"sapwood/api"
	"sapwood/derive"
	"sapwood/dh"
	"sapwood/node"
)

// anyKey: some key.
func anyKey(random *rand.Rand) api.Key {
	var k api.Key
	random.Read(k[:])
	return k
}

// someKeys: keys at the ends, and any.
func someKeys(random *rand.Rand) []api.Key {
	keys := []api.Key{{}, {1}, {7}, {8}, {31: 64}, {31: 128}, filled(255), filled(0x55)}
	for range 12 {
		keys = append(keys, anyKey(random))
	}
	return keys
}

// filled: a key whose bytes are all one.
func filled(b byte) api.Key {
	var k api.Key
	for i := range k {
		k[i] = b
	}
	return k
}

// turned: a key with one bit turned.
func turned(k api.Key, bit int) api.Key {
	k[bit/8] ^= 1 << (bit % 8)
	return k
}

// key: a key of digits.
func key(t *testing.T, text string) api.Key {
	t.Helper()
	b, err := hex.DecodeString(text)
	if err != nil || len(b) != 32 {
		t.Fatalf("%s: the test itself is wrong", text)
	}
	return api.Key(b)
}

// idle: public keys that share 0 with whatever secret: 0, 1, two of order 8, those from -1 to 1 modulo 2^255 - 19 as they may be written otherwise; each with the highest bit, too.
func idle(t *testing.T) []api.Key {
	t.Helper()
	list := []api.Key{{}, {1}}
	for _, text := range []string{
		"e0eb7a7c3b41b8ae1656e3faf19fc46ada098deb9c32b1fd866205165f49b800",
		"5f9c95bca3508c24b1d0b1559c83ef5b04445cc4581c8e86d8224eddd09f1157",
		"ecffffffffffffffffffffffffffffffffffffffffffffffffffffffffffff7f",
		"edffffffffffffffffffffffffffffffffffffffffffffffffffffffffffff7f",
		"eeffffffffffffffffffffffffffffffffffffffffffffffffffffffffffff7f",
	} {
		list = append(list, key(t, text))
	}
	for _, k := range slices.Clone(list) {
		list = append(list, turned(k, 255))
	}
	return list
}

// libraryBase: a secret's public key, by the library's X25519.
func libraryBase(t *testing.T, secret api.Key) api.Key {
	t.Helper()
	s, err := ecdh.X25519().NewPrivateKey(secret[:])
	if err != nil {
		t.Fatal(err)
	}
	return api.Key(s.PublicKey().Bytes())
}

// libraryUp: the parent's secret, by the library's X25519 and HKDF; false, where nothing is shared.
func libraryUp(t *testing.T, secret, public api.Key) (api.Key, bool) {
	t.Helper()
	s, err := ecdh.X25519().NewPrivateKey(secret[:])
	if err != nil {
		t.Fatal(err)
	}
	p, err := ecdh.X25519().NewPublicKey(public[:])
	if err != nil {
		t.Fatal(err)
	}
	shared, err := s.ECDH(p)
	if err != nil {
		return api.Key{}, false
	}
	parent, err := hkdf.Key(sha256.New, shared, []byte("sapwood node"), "", 32)
	if err != nil {
		t.Fatal(err)
	}
	return api.Key(parent), true
}

// checkRight: Right says that.
func checkRight(t *testing.T, p node.Pair, wanted bool) {
	t.Helper()
	if got := p.Right(); got != wanted {
		t.Errorf("Right of %x is %v", p, got)
	}
}

// checkUp: Up answers the wanted key, if it is one, and else nothing.
func checkUp(t *testing.T, secret, other, wanted api.Key, is bool) {
	t.Helper()
	if got, ok := node.Up(secret, other); got != wanted || ok != is {
		t.Errorf("Up of %x and %x is %x, %v, wanted %x, %v", secret, other, got, ok, wanted, is)
	}
}

// checkClimb: Climb answers these.
func checkClimb(t *testing.T, wanted []api.Key, secret api.Key, others ...api.Key) {
	t.Helper()
	if got, ok := node.Climb(secret, others...); !ok || !slices.Equal(got, wanted) {
		t.Errorf("Climb of %x and %x is %x, %v, wanted %x", secret, others, got, ok, wanted)
	}
}

// checkNoClimb: Climb answers none, false.
func checkNoClimb(t *testing.T, secret api.Key, others ...api.Key) {
	t.Helper()
	if got, ok := node.Climb(secret, others...); ok || len(got) != 0 {
		t.Errorf("Climb of %x and %x is %x, %v", secret, others, got, ok)
	}
}

// P12.1: Of has the secret as it is, not clamped, and its public key.
func TestOf(t *testing.T) {
	for _, s := range someKeys(rand.New(rand.NewSource(1))) {
		got := node.Of(s)
		if wanted := (node.Pair{Secret: s, Public: libraryBase(t, s)}); got != wanted || got.Public != dh.Base(s) {
			t.Errorf("Of %x is %x, wanted %x", s, got, wanted)
		}
		checkRight(t, got, true)
	}
	a := key(t, "77076d0a7318a57d3c16c17251b26645df4c2f87ebc0992ab177fba51db92c2a")
	if got := node.Of(a); got.Public != key(t, "8520f0098930a754748b7ddcb43ef75a0dbf3a0d26381af4eba4a98eaa9b4e6a") {
		t.Errorf("Of %x is %x", a, got)
	}
}

// P12.1: Right is of that public key alone, byte by byte.
func TestRight(t *testing.T) {
	random := rand.New(rand.NewSource(2))
	for _, s := range []api.Key{{}, filled(255), anyKey(random)} {
		p := node.Of(s)
		for bit := range 256 {
			checkRight(t, node.Pair{Secret: s, Public: turned(p.Public, bit)}, false)
		}
		for _, k := range []api.Key{{}, {9}, s, node.Of(turned(s, 100)).Public} {
			checkRight(t, node.Pair{Secret: s, Public: k}, false)
		}
		checkRight(t, node.Pair{Secret: p.Public, Public: s}, false)
	}
	checkRight(t, node.Pair{}, false)
}

// P12.1: Right goes by the secret as it is used: bits that are clamped play no part, all others do.
func TestRightOfOtherSecrets(t *testing.T) {
	p := node.Of(anyKey(rand.New(rand.NewSource(3))))
	for bit := range 256 {
		free := slices.Contains([]int{0, 1, 2, 254, 255}, bit)
		checkRight(t, node.Pair{Secret: turned(p.Secret, bit), Public: p.Public}, free)
	}
}

// P12.1: Up, held against the library; the bits that play no part in what is shared play none here.
func TestUp(t *testing.T) {
	random := rand.New(rand.NewSource(4))
	for _, s := range someKeys(random) {
		for _, other := range []api.Key{{9}, {2}, filled(255), anyKey(random), dh.Base(s), s} {
			wanted, is := libraryUp(t, s, other)
			checkUp(t, s, other, wanted, is)
			checkUp(t, s, turned(other, 255), wanted, is)
			checkUp(t, turned(s, 0), other, wanted, is)
			if shared, ok := dh.Shared(s, other); ok {
				checkUp(t, s, other, derive.Node(shared), true)
			}
		}
	}
	a, b := key(t, "77076d0a7318a57d3c16c17251b26645df4c2f87ebc0992ab177fba51db92c2a"), key(t, "de9edb7d7b7dc1b4d35b61c2ece435373f8343c85b78674dadfc7e146f882b4f")
	checkUp(t, a, b, derive.Node(key(t, "4a5d9d5ba4ce2de1728e3bf480350f25e07e21c947d19e3376f09b3c1e161742")), true)
}

// P12.1: the zero key, false, where what is shared is all 0; what is just beside such a public key comes up.
func TestUpOfNothing(t *testing.T) {
	random := rand.New(rand.NewSource(5))
	for _, other := range idle(t) {
		for _, s := range []api.Key{{}, {1}, filled(255), anyKey(random)} {
			checkUp(t, s, other, api.Key{}, false)
			near := turned(other, 77)
			wanted, is := libraryUp(t, s, near)
			checkUp(t, s, near, wanted, is)
			if _, ok := libraryUp(t, s, other); ok || !is {
				t.Errorf("%x: the test itself is wrong", other)
			}
		}
	}
}

// P12.2: Climb of nobody is the secret alone, whatever it is.
func TestClimbOfNobody(t *testing.T) {
	for _, s := range someKeys(rand.New(rand.NewSource(6))) {
		checkClimb(t, []api.Key{s}, s)
		checkClimb(t, []api.Key{s}, s, nil...)
		checkClimb(t, []api.Key{s}, s, []api.Key{}...)
	}
}

// P12.2: Climb of one up to many: each is Up of the one ahead and the next public key.
func TestClimb(t *testing.T) {
	random := rand.New(rand.NewSource(7))
	for _, s := range someKeys(random) {
		wanted, others := []api.Key{s}, []api.Key{}
		for range 10 {
			other := anyKey(random)
			parent, ok := libraryUp(t, wanted[len(wanted)-1], other)
			if !ok {
				t.Fatal("the test itself is wrong")
			}
			wanted, others = append(wanted, parent), append(others, other)
			checkClimb(t, wanted, s, others...)
		}
		others[3], others[4] = others[4], others[3]
		if got, ok := node.Climb(s, others...); !ok || !slices.Equal(got[:4], wanted[:4]) || got[4] == wanted[4] || got[5] == wanted[5] || got[10] == wanted[10] {
			t.Errorf("Climb of %x is %x, %v, with two of them in the other order", s, got, ok)
		}
	}
	others, wanted := make([]api.Key, 200), []api.Key{{5}}
	for i := range others {
		others[i] = dh.Base(api.Key{byte(i)})
		parent, _ := node.Up(wanted[i], others[i])
		wanted = append(wanted, parent)
	}
	checkClimb(t, wanted, api.Key{5}, others...)
}

// P12.2: none, false, whichever one is false, also the last one.
func TestClimbOfNothing(t *testing.T) {
	random := rand.New(rand.NewSource(8))
	a, b, c := dh.Base(anyKey(random)), dh.Base(anyKey(random)), dh.Base(anyKey(random))
	for _, zero := range idle(t) {
		s := anyKey(random)
		checkNoClimb(t, s, zero)
		checkNoClimb(t, api.Key{}, zero)
		checkNoClimb(t, s, zero, a, b, c)
		checkNoClimb(t, s, a, zero, b, c)
		checkNoClimb(t, s, a, b, c, zero)
		checkNoClimb(t, s, zero, zero)
	}
}

// P12.3: two pairs that are right come up to one key, which is no zero key.
func TestBothSides(t *testing.T) {
	for _, a := range someKeys(rand.New(rand.NewSource(9))) {
		for _, b := range []api.Key{{}, {1}, a, turned(a, 90), filled(255), filled(3)} {
			p, q := node.Of(a), node.Of(b)
			one, ok := node.Up(p.Secret, q.Public)
			checkUp(t, q.Secret, p.Public, one, ok)
			if !ok || one == (api.Key{}) {
				t.Errorf("%x and %x come up to %x, %v", a, b, one, ok)
			}
		}
	}
}

// P12.3: so four leaves, by their copaths, come up to one root.
func TestFourLeaves(t *testing.T) {
	random := rand.New(rand.NewSource(10))
	a, b, c, d := node.Of(anyKey(random)), node.Of(anyKey(random)), node.Of(anyKey(random)), node.Of(anyKey(random))
	first, _ := node.Up(a.Secret, b.Public)
	second, _ := node.Up(c.Secret, d.Public)
	left, right := node.Of(first), node.Of(second)
	root, ok := node.Up(left.Secret, right.Public)
	if !ok {
		t.Error("there is no root")
	}
	checkClimb(t, []api.Key{a.Secret, first, root}, a.Secret, b.Public, right.Public)
	checkClimb(t, []api.Key{b.Secret, first, root}, b.Secret, a.Public, right.Public)
	checkClimb(t, []api.Key{c.Secret, second, root}, c.Secret, d.Public, left.Public)
	checkClimb(t, []api.Key{d.Secret, second, root}, d.Secret, c.Public, left.Public)
}

// Rules: what is handed in is left as it was, spare room included; an answer is nobody else's memory, and hangs on nothing that was called ahead.
func TestNothingIsKept(t *testing.T) {
	wanted := []api.Key{{9}, filled(7), {2}, filled(255), {3}}
	room := slices.Clone(wanted)
	s := filled(255)
	none, _ := node.Climb(s, room[:0]...)
	first, ok := node.Climb(s, room[:3]...)
	if !ok || len(none) != 1 || !slices.Equal(room, wanted) || s != filled(255) {
		t.Errorf("Climb changed what it was handed: %x", room)
	}
	kept := slices.Clone(first)
	room[0], room[1] = api.Key{}, api.Key{}
	again, _ := node.Climb(s, wanted[:3]...)
	for i := range again {
		again[i] = api.Key{}
	}
	none[0] = api.Key{}
	if !slices.Equal(first, kept) {
		t.Errorf("an answer was changed: %x", first)
	}
	checkClimb(t, kept, s, wanted[:3]...)
	longer, other := append(first, api.Key{1}), append(again, api.Key{2})
	if longer[4] != (api.Key{1}) || other[4] != (api.Key{2}) {
		t.Error("two answers share their spare room")
	}
	p := node.Of(s)
	p.Right()
	if p != node.Of(filled(255)) || !p.Right() {
		t.Errorf("Right changed its pair: %x", p)
	}
}

// P1: no call panics, whatever the keys are.
func TestNoPanic(t *testing.T) {
	for b := range 256 {
		k := filled(byte(b))
		node.Of(k)
		node.Pair{Secret: k, Public: k}.Right()
		node.Up(k, k)
		node.Climb(k, k, api.Key{}, k)
	}
}
