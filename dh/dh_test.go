package dh_test

import (
	"crypto/ecdh"
	"encoding/hex"
	"math/big"
	"math/rand"
	"slices"
	"testing"

	"sapwood/api"
	"sapwood/dh"
	"sapwood/ladder"
	"sapwood/limb"
)

// key: a key of digits.
func key(t *testing.T, text string) api.Key {
	t.Helper()
	b, err := hex.DecodeString(text)
	if err != nil || len(b) != 32 {
		t.Fatalf("%s: the test itself is wrong", text)
	}
	return api.Key(b)
}

// keyOf: a number under 2^256 as bytes, the lowest first.
func keyOf(n *big.Int) api.Key {
	var k api.Key
	n.FillBytes(k[:])
	slices.Reverse(k[:])
	return k
}

// whole: all 32 bytes of a key as a number, the lowest first.
func whole(k api.Key) *big.Int {
	slices.Reverse(k[:])
	return new(big.Int).SetBytes(k[:])
}

// modulus: 2^255 - 19, and a few more or less.
func modulus(more int64) *big.Int {
	m := new(big.Int).Lsh(big.NewInt(1), 255)
	return m.Add(m, big.NewInt(more-19))
}

// anyKey: some key.
func anyKey(random *rand.Rand) api.Key {
	var k api.Key
	random.Read(k[:])
	return k
}

// filled: a key whose bytes are all one.
func filled(b byte) api.Key {
	var k api.Key
	for i := range k {
		k[i] = b
	}
	return k
}

// turned: a key with one bit turned.
func turned(k api.Key, bit int) api.Key {
	k[bit/8] ^= 1 << (bit % 8)
	return k
}

// high: a key with its highest bit set.
func high(k api.Key) api.Key {
	k[31] |= 128
	return k
}

// clamped: a secret as it is used, reckoned by the document's words alone, bit by bit.
func clamped(k api.Key) api.Key {
	n := whole(k)
	for _, bit := range []int{0, 1, 2, 255} {
		n.SetBit(n, bit, 0)
	}
	return keyOf(n.SetBit(n, 254, 1))
}

// soonAtInfinity: the public keys of points that 8 times are at infinity, as bytes: 0, 1, -1, two of order 8, and what else is read as those; each with the highest bit, too.
func soonAtInfinity(t *testing.T) []api.Key {
	t.Helper()
	l := []api.Key{{}, {1}, keyOf(modulus(-1)), keyOf(modulus(0)), keyOf(modulus(1))}
	for _, text := range []string{"325606250916557431795983626356110631294008115727848805560023387167927233504", "39382357235489614581723060781553021112529911719440698176882885853963445705823"} {
		n, ok := new(big.Int).SetString(text, 10)
		if !ok {
			t.Fatal("the test itself is wrong")
		}
		l = append(l, keyOf(n))
	}
	for _, k := range slices.Clone(l) {
		l = append(l, high(k))
	}
	return l
}

// byLibrary: what a secret and a public key share, by the library's X25519; false, where it refuses that.
func byLibrary(t *testing.T, secret, public api.Key) (api.Key, bool) {
	t.Helper()
	s, err := ecdh.X25519().NewPrivateKey(secret[:])
	if err != nil {
		t.Fatal(err)
	}
	p, err := ecdh.X25519().NewPublicKey(public[:])
	if err != nil {
		t.Fatal(err)
	}
	shared, err := s.ECDH(p)
	if err != nil {
		return api.Key{}, false
	}
	return api.Key(shared), true
}

// checkShared: Shared answers the wanted key, if it is one, and else nothing.
func checkShared(t *testing.T, secret, public, wanted api.Key, is bool) {
	t.Helper()
	if got, ok := dh.Shared(secret, public); got != wanted || ok != is {
		t.Errorf("Shared of %x and %x is %x, %v, wanted %x, %v", secret, public, got, ok, wanted, is)
	}
}

// checkRaw: Raw answers the wanted key.
func checkRaw(t *testing.T, k, public, wanted api.Key) {
	t.Helper()
	if got := dh.Raw(k, public); got != wanted {
		t.Errorf("Raw of %x and %x is %x, wanted %x", k, public, got, wanted)
	}
}

// P6.1: five bits are set as they must be, all others left as they are.
func TestClamp(t *testing.T) {
	for what, keys := range map[string][2]api.Key{
		"none":                  {{}, {31: 64}},
		"the lowest bits":       {{7}, {31: 64}},
		"the one above them":    {{15}, {8, 31: 64}},
		"the highest bit":       {{31: 128}, {31: 64}},
		"the one below it":      {{31: 64}, {31: 64}},
		"the one below that":    {{31: 32}, {31: 96}},
		"first and last":        {{255, 31: 255}, {248, 31: 127}},
		"the second, last less": {{0, 7, 30: 192}, {0, 7, 30: 192, 31: 64}},
	} {
		if got := dh.Clamp(keys[0]); got != keys[1] {
			t.Errorf("%s: Clamp is %x, wanted %x", what, got, keys[1])
		}
	}
	random := rand.New(rand.NewSource(1))
	l := []api.Key{filled(0), filled(255), filled(0xaa), filled(0x55), anyKey(random), anyKey(random)}
	for _, k := range slices.Clone(l) {
		for bit := range 256 {
			l = append(l, turned(k, bit))
		}
	}
	for _, k := range l {
		if got := dh.Clamp(k); got != clamped(k) || dh.Clamp(got) != got {
			t.Errorf("Clamp of %x is %x, wanted %x", k, got, clamped(k))
		}
	}
}

// P6.1: Raw by hand: once, never, twice (the point of order 4: 0; of it 4 times, too), and by RFC 7748's two vectors, whose numbers are clamped first.
func TestRawByHand(t *testing.T) {
	checkRaw(t, api.Key{1}, api.Key{9}, api.Key{9})
	checkRaw(t, api.Key{}, api.Key{9}, api.Key{})
	checkRaw(t, api.Key{1}, api.Key{1, 2, 3, 31: 4}, api.Key{1, 2, 3, 31: 4})
	checkRaw(t, api.Key{2}, api.Key{1}, api.Key{})
	checkRaw(t, api.Key{4}, api.Key{1}, api.Key{})
	checkRaw(t, api.Key{5}, api.Key{1}, api.Key{1})
	checkRaw(t, filled(255), api.Key{}, api.Key{})
	vectors := [][3]string{
		{"a546e36bf0527c9d3b16154b82465edd62144c0ac1fc5a18506a2244ba449ac4", "e6db6867583030db3594c1a424b15f7c726624ec26b3353b10a903a6d0ab1c4c", "c3da55379de9c6908e94ea4df28d084f32eccf03491c71f754b4075577a28552"},
		{"4b66e9d4d1b4673c5ad22691957d6af5c11b6421e0ea01d42ca4169e7918ba0d", "e5210f12786811d3f4b7959d0538ae2c31dbe7106fc03c3efc4cd549c715a493", "95cbde9476e8907d7aade45cb4b873f88b595a68799fa152e6f8f7647aac7957"},
	}
	for _, v := range vectors {
		secret, public, wanted := key(t, v[0]), key(t, v[1]), key(t, v[2])
		checkRaw(t, clamped(secret), public, wanted)
		checkShared(t, secret, public, wanted, true)
	}
}

// P6.1: the number isn't clamped: each of the bits that Clamp sets, and each other one, counts at its place.
func TestRawAsItIs(t *testing.T) {
	random := rand.New(rand.NewSource(2))
	public := anyKey(random)
	for bit := range 256 {
		for _, k := range []api.Key{turned(api.Key{}, bit), turned(filled(255), bit)} {
			checkRaw(t, k, public, ladder.Times(k, limb.Of(public)).Key())
		}
	}
	order, _ := new(big.Int).SetString("27742317777372353535851937790883648493", 10)
	order.SetBit(order, 252, 1)
	for more := range int64(9) { // behind the order of 9 it begins anew
		at := new(big.Int).Add(order, big.NewInt(more))
		checkRaw(t, keyOf(at), api.Key{9}, dh.Raw(api.Key{byte(more)}, api.Key{9}))
		at.Add(at, new(big.Int).Lsh(order, 3)) // 9 times the order is above 2^255
		checkRaw(t, keyOf(at), api.Key{9}, dh.Raw(api.Key{byte(more)}, api.Key{9}))
	}
}

// P6.1: public keys are read as numbers: without the highest bit, those from the modulus on as what they are modulo that; what is answered is from 0 to 2^255 - 20.
func TestRawReads(t *testing.T) {
	random := rand.New(rand.NewSource(3))
	for range 60 {
		k, public := anyKey(random), anyKey(random)
		public[31] &= 127
		got := dh.Raw(k, public)
		checkRaw(t, k, high(public), got)
		checkRaw(t, k, public, ladder.Times(k, limb.Of(public)).Key())
		if whole(got).Cmp(modulus(0)) >= 0 {
			t.Errorf("Raw of %x and %x is %x", k, public, got)
		}
	}
	for more := range int64(19) {
		k := anyKey(random)
		wanted := dh.Raw(k, api.Key{byte(more)})
		checkRaw(t, k, keyOf(modulus(more)), wanted)
		checkRaw(t, k, high(keyOf(modulus(more))), wanted)
		checkRaw(t, api.Key{1}, keyOf(modulus(more)), api.Key{byte(more)})
		checkRaw(t, api.Key{1}, high(keyOf(modulus(more))), api.Key{byte(more)})
	}
	checkRaw(t, api.Key{1}, keyOf(modulus(-1)), keyOf(modulus(-1)))
}

// P6.1: RFC 7748's iteration, once and a thousand times: a key and a public key, ever anew.
func TestAgainAndAgain(t *testing.T) {
	k, public := api.Key{9}, api.Key{9}
	for i := range 1000 {
		k, public = dh.Raw(dh.Clamp(k), public), k
		if i == 0 && k != key(t, "422c8e7a6227d7bca1350b3e2bb7279f7897b87bb6854b783c60e80311ae3079") {
			t.Errorf("once: %x", k)
		}
	}
	if k != key(t, "684cf59ba83309552800ef566f2f4d3c1c3887c49360e3875f2eb94d99532c51") {
		t.Errorf("a thousand times: %x", k)
	}
}

// P6.1, P6.2: RFC 7748's two who share a key.
func TestTwo(t *testing.T) {
	a := key(t, "77076d0a7318a57d3c16c17251b26645df4c2f87ebc0992ab177fba51db92c2a")
	b := key(t, "5dab087e624a8a4b79e17f8b83800ee66f3bb1292618b6fd1c2f8b27ff88e0eb")
	first := key(t, "8520f0098930a754748b7ddcb43ef75a0dbf3a0d26381af4eba4a98eaa9b4e6a")
	second := key(t, "de9edb7d7b7dc1b4d35b61c2ece435373f8343c85b78674dadfc7e146f882b4f")
	if dh.Base(a) != first || dh.Base(b) != second {
		t.Errorf("Base is %x, %x", dh.Base(a), dh.Base(b))
	}
	wanted := key(t, "4a5d9d5ba4ce2de1728e3bf480350f25e07e21c947d19e3376f09b3c1e161742")
	checkShared(t, a, second, wanted, true)
	checkShared(t, b, first, wanted, true)
}

// P6.1: Base and Shared, clamped, whatever the secret; and held against the library's.
func TestBaseAndShared(t *testing.T) {
	random := rand.New(rand.NewSource(4))
	secrets := []api.Key{{}, {1}, {7}, {8}, {255, 31: 255}, {31: 64}, {31: 128}, filled(255), filled(0x55)}
	for range 100 {
		secrets = append(secrets, anyKey(random))
	}
	for _, s := range secrets {
		public := anyKey(random)
		if got := dh.Base(s); got != dh.Raw(clamped(s), api.Key{9}) {
			t.Errorf("Base of %x is %x", s, got)
		}
		base, _ := byLibrary(t, s, api.Key{9})
		if dh.Base(s) != base {
			t.Errorf("Base of %x is %x, wanted %x", s, dh.Base(s), base)
		}
		wanted, ok := byLibrary(t, s, public)
		checkShared(t, s, public, wanted, ok)
		checkShared(t, s, public, dh.Raw(clamped(s), public), true)
		checkShared(t, clamped(s), public, wanted, ok)
		checkShared(t, s, api.Key{9}, base, true)
		for _, bit := range []int{0, 1, 2, 254, 255} {
			checkShared(t, turned(s, bit), public, wanted, true)
		}
		checkShared(t, s, turned(public, 255), wanted, true)
	}
	for _, p := range []api.Key{{2}, {9}, filled(255), keyOf(modulus(-2)), keyOf(modulus(2)), keyOf(modulus(18)), high(api.Key{2}), {31: 127}} {
		s := anyKey(random)
		wanted, ok := byLibrary(t, s, p)
		checkShared(t, s, p, wanted, ok)
		if !ok {
			t.Errorf("%x: the test itself is wrong", p)
		}
	}
}

// P6.1: false, where all is 0, beside the zero key; what is just beside such a public key is shared.
func TestSharedOfNothing(t *testing.T) {
	random := rand.New(rand.NewSource(5))
	for _, p := range soonAtInfinity(t) {
		for _, s := range []api.Key{{}, {1}, filled(255), anyKey(random), anyKey(random)} {
			checkShared(t, s, p, api.Key{}, false)
			if _, ok := byLibrary(t, s, p); ok {
				t.Errorf("%x: the test itself is wrong", p)
			}
			near := turned(p, 3)
			wanted, ok := byLibrary(t, s, near)
			checkShared(t, s, near, wanted, ok)
		}
	}
}

// checkChain: Chain answers that.
func checkChain(t *testing.T, wanted api.Key, is bool, public api.Key, secrets ...api.Key) {
	t.Helper()
	if got, ok := dh.Chain(public, secrets...); got != wanted || ok != is {
		t.Errorf("Chain of %x and %x is %x, %v, wanted %x, %v", public, secrets, got, ok, wanted, is)
	}
}

// P6.1: of no secrets the public key, as it is, whatever it is; of one, Shared; of more, of each and what came.
func TestChain(t *testing.T) {
	random := rand.New(rand.NewSource(6))
	for _, p := range append(soonAtInfinity(t), api.Key{9}, filled(255), anyKey(random)) {
		checkChain(t, p, true, p)
		checkChain(t, p, true, p, []api.Key{}...)
		checkChain(t, p, true, p, nil...)
	}
	for range 20 {
		p, a, b := anyKey(random), anyKey(random), anyKey(random)
		one, _ := dh.Shared(a, p)
		two, _ := dh.Shared(b, one)
		again, _ := dh.Shared(a, two)
		checkChain(t, one, true, p, a)
		checkChain(t, two, true, p, a, b)
		checkChain(t, two, true, p, b, a)
		checkChain(t, again, true, p, a, b, a)
		checkChain(t, two, true, high(p), a, b)
	}
	secrets := make([]api.Key, 300)
	p := dh.Base(api.Key{77})
	wanted := p
	for i := range secrets {
		secrets[i] = anyKey(random)
		wanted, _ = dh.Shared(secrets[i], wanted)
	}
	checkChain(t, wanted, true, p, secrets...)
}

// P6.1: the zero key, false, as soon as one is false, however many are behind.
func TestChainOfNothing(t *testing.T) {
	random := rand.New(rand.NewSource(7))
	for _, p := range soonAtInfinity(t) {
		a, b := anyKey(random), anyKey(random)
		checkChain(t, api.Key{}, false, p, a)
		checkChain(t, api.Key{}, false, p, api.Key{})
		checkChain(t, api.Key{}, false, p, a, b)
		checkChain(t, api.Key{}, false, p, a, b, a, b)
	}
}

// P6.2: of two secrets, from both sides, it is one key, and never all 0; so it is of many, in any order.
func TestBothSides(t *testing.T) {
	random := rand.New(rand.NewSource(8))
	secrets := []api.Key{{}, {1}, {7}, {31: 128}, filled(255), filled(127)}
	for range 10 {
		secrets = append(secrets, anyKey(random))
	}
	for _, a := range secrets {
		for _, b := range secrets {
			one, ok := dh.Shared(a, dh.Base(b))
			other, is := dh.Shared(b, dh.Base(a))
			if !ok || !is || one != other || one == (api.Key{}) {
				t.Errorf("%x and %x share %x, %v and %x, %v", a, b, one, ok, other, is)
			}
		}
	}
	wanted, ok := dh.Chain(dh.Base(secrets[0]), secrets[1:]...)
	for range 10 {
		random.Shuffle(len(secrets), func(i, k int) { secrets[i], secrets[k] = secrets[k], secrets[i] })
		checkChain(t, wanted, ok, dh.Base(secrets[0]), secrets[1:]...)
	}
	if !ok || wanted == (api.Key{}) {
		t.Error("many share nothing")
	}
}

// Rules: what is handed in is left as it was, spare room included; the same call answers the same again.
func TestNothingIsKept(t *testing.T) {
	wanted := []api.Key{filled(255), {7}, filled(3), {9, 31: 255}}
	room := slices.Clone(wanted)
	public := high(api.Key{9})
	first, _ := dh.Chain(public, room[:2]...)
	none, _ := dh.Chain(public, room[:0]...)
	if !slices.Equal(room, wanted) || public != high(api.Key{9}) || none != public {
		t.Errorf("Chain changed what it was handed: %x", room)
	}
	room[0] = api.Key{}
	checkChain(t, first, true, public, wanted[:2]...)
	s := filled(255)
	dh.Clamp(s)
	dh.Base(s)
	dh.Shared(s, s)
	dh.Raw(s, s)
	if s != filled(255) || dh.Base(s) != dh.Base(s) || dh.Raw(s, s) != dh.Raw(s, s) {
		t.Error("a call changed something")
	}
}

// P1: no call panics, whatever the keys are.
func TestNoPanic(t *testing.T) {
	for b := range 256 {
		k := filled(byte(b))
		dh.Clamp(k)
		dh.Raw(k, k)
		dh.Base(k)
		dh.Shared(k, k)
		dh.Chain(k, k, k)
	}
	dh.Chain(api.Key{})
}
