package limb_test

import (
	"math"
	"math/big"
	"math/rand"
	"testing"

	"sapwood/api"
	"sapwood/limb"
)

// modulus: 2^255 - 19.
func modulus() *big.Int {
	m := big.NewInt(1)
	return m.Lsh(m, 255).Sub(m, big.NewInt(19))
}

// number: what an element stands for, reckoned by the document's words alone.
func number(e limb.Elem) *big.Int {
	n := new(big.Int)
	for i, l := range e {
		x := new(big.Int).SetUint64(l)
		n.Add(n, x.Lsh(x, uint(51*i)))
	}
	return n.Mod(n, modulus())
}

// bytesOf: a number under 2^256 as bytes, the lowest first.
func bytesOf(n *big.Int) api.Key {
	var k api.Key
	n.FillBytes(k[:])
	for i := range 16 {
		k[i], k[31-i] = k[31-i], k[i]
	}
	return k
}

// read: the number that a key is read as, modulo 2^255 - 19.
func read(k api.Key) *big.Int {
	k[31] &= 127
	for i := range 16 {
		k[i], k[31-i] = k[31-i], k[i]
	}
	n := new(big.Int).SetBytes(k[:])
	return n.Mod(n, modulus())
}

// check: an answer is tight, stands for the wanted number, and its Key is that.
func check(t *testing.T, what string, got limb.Elem, wanted *big.Int) {
	t.Helper()
	wanted = new(big.Int).Mod(wanted, modulus())
	if !got.Tight() || !isUnder(got, 1<<52) {
		t.Errorf("%s: %v isn't tight", what, got)
	}
	if n := number(got); n.Cmp(wanted) != 0 {
		t.Errorf("%s: %v stands for %v, wanted %v", what, got, n, wanted)
	}
	if k := got.Key(); k != bytesOf(wanted) {
		t.Errorf("%s: the key of %v is %x, wanted that of %v", what, got, k, wanted)
	}
}

// isUnder: is no limb above that?
func isUnder(e limb.Elem, bound uint64) bool {
	return max(e[0], e[1], e[2], e[3], e[4]) <= bound
}

// edges: limbs about which carries begin or end.
func edges() []uint64 {
	return []uint64{0, 1, 18, 19, 20, 1<<51 - 20, 1<<51 - 19, 1<<51 - 18, 1<<51 - 1, 1 << 51, 1<<51 + 1, 1<<52 - 38, 1<<52 - 2, 1<<52 - 1, 1 << 52, 1<<52 + 1, 1 << 53, 1<<54 - 152, 1<<54 - 1, 1 << 54}
}

// edgeElem: some loose element of edges.
func edgeElem(random *rand.Rand) limb.Elem {
	var e limb.Elem
	l := edges()
	for i := range e {
		e[i] = l[random.Intn(len(l))]
	}
	return e
}

// looseElem: some loose element.
func looseElem(random *rand.Rand) limb.Elem {
	var e limb.Elem
	for i := range e {
		e[i] = random.Uint64() % (1<<54 + 1)
	}
	return e
}

// full: an element whose limbs are all one.
func full(l uint64) limb.Elem { return limb.Elem{l, l, l, l, l} }

// P2.1: each bit of a key counts at its place, but the highest one, which doesn't count.
func TestOfEachBit(t *testing.T) {
	for bit := range 255 {
		var k api.Key
		k[bit/8] = 1 << (bit % 8)
		n := big.NewInt(1)
		check(t, "one bit", limb.Of(k), n.Lsh(n, uint(bit)))
		k[31] |= 128
		check(t, "one bit and the highest one", limb.Of(k), n)
		for i := range k {
			k[i] ^= 255
		}
		check(t, "all other bits", limb.Of(k), read(k))
	}
	check(t, "the highest bit", limb.Of(api.Key{31: 128}), new(big.Int))
	check(t, "bytes in order", limb.Of(api.Key{1, 2, 3, 31: 4}), read(api.Key{1, 2, 3, 31: 4}))
}

// P2.1: the numbers from 2^255 - 19 on, and those just ahead, with the highest bit and without it.
func TestOfAboutTheModulus(t *testing.T) {
	for i := -40; i < 19; i++ {
		n := new(big.Int).Add(modulus(), big.NewInt(int64(i)))
		k := bytesOf(n)
		check(t, "about the modulus", limb.Of(k), n)
		wanted := bytesOf(new(big.Int).Mod(n, modulus()))
		k[31] |= 128
		if got := limb.Of(k).Key(); got != wanted {
			t.Errorf("the key of the modulus and %d, with the highest bit, is %x", i, got)
		}
		if i >= 0 && wanted != (api.Key{byte(i)}) {
			t.Errorf("%x: the test itself is wrong", wanted)
		}
	}
}

// P2.1: small numbers.
func TestSmall(t *testing.T) {
	for _, n := range []uint32{0, 1, 2, 9, 19, 255, 256, 65535, 65536, 121665, 1<<31 - 1, 1 << 31, 1<<32 - 19, math.MaxUint32} {
		check(t, "small", limb.Small(n), big.NewInt(int64(n)))
		wanted := api.Key{byte(n), byte(n >> 8), byte(n >> 16), byte(n >> 24)}
		if got := limb.Small(n).Key(); got != wanted {
			t.Errorf("the key of %d is %x", n, got)
		}
	}
}

// P2.1: each limb is held against the bound, which itself is still within; whatever the limbs are.
func TestTightAndLoose(t *testing.T) {
	for _, l := range []uint64{0, 1, 1<<51 - 1, 1 << 51, 1<<52 - 1, 1 << 52, 1<<52 + 1, 1 << 53, 1<<54 - 1, 1 << 54, 1<<54 + 1, 1 << 55, 1 << 63, 1<<63 + 1, math.MaxUint64} {
		for i := range 6 {
			e := full(l)
			if i < 5 {
				e = limb.Elem{}
				e[i] = l
			}
			if got := e.Tight(); got != (l <= 1<<52) {
				t.Errorf("Tight of %v is %v", e, got)
			}
			if got := e.Loose(); got != (l <= 1<<54) {
				t.Errorf("Loose of %v is %v", e, got)
			}
		}
	}
	for i := range 5 {
		e := full(1 << 52)
		e[i]++
		if e.Tight() || !full(1<<52).Tight() {
			t.Errorf("Tight of %v", e)
		}
		e = full(1 << 54)
		e[i]++
		if e.Loose() || !full(1<<54).Loose() {
			t.Errorf("Loose of %v", e)
		}
	}
}

// checkKey: the key of a loose element is that of its number, from 0 to 2^255 - 20, and reading it again changes nothing.
func checkKey(t *testing.T, e limb.Elem) {
	t.Helper()
	n := number(e)
	k := e.Key()
	if k != bytesOf(n) {
		t.Fatalf("the key of %v is %x, wanted that of %v", e, k, n)
	}
	if again := limb.Of(k); number(again).Cmp(n) != 0 || again.Key() != k {
		t.Fatalf("Of of the key of %v is %v", e, again)
	}
}

// P2.1, P2.3: the key of whatever loose element.
func TestKey(t *testing.T) {
	l := []uint64{0, 1, 1<<51 - 19, 1<<51 - 1, 1 << 51, 1<<52 - 1, 1 << 52, 1 << 54}
	for i := range 1 << 15 {
		checkKey(t, limb.Elem{l[i&7], l[i>>3&7], l[i>>6&7], l[i>>9&7], l[i>>12]})
	}
	random := rand.New(rand.NewSource(2))
	for range 20000 {
		checkKey(t, edgeElem(random))
		checkKey(t, looseElem(random))
	}
}

// P2.1, P2.3: the elements that stand for 0, for 2^255 - 20 and for the numbers between, the modulus put to the limbs so many times as they hold it.
func TestKeyOfManyStands(t *testing.T) {
	for small := range uint64(20) {
		wanted := api.Key{byte(small)}
		less := bytesOf(new(big.Int).Sub(modulus(), big.NewInt(int64(small+1))))
		for times := range uint64(8) {
			e := full(times * (1<<51 - 1))
			e[0] = times*(1<<51-19) + small
			if got := e.Key(); got != wanted {
				t.Errorf("the key of %d and %d times the modulus is %x", small, times, got)
			}
			e = full((times + 1) * (1<<51 - 1))
			e[0] = (times+1)*(1<<51-19) - small - 1
			if got := e.Key(); got != less {
				t.Errorf("the key of %d less than %d times the modulus is %x", small+1, times+1, got)
			}
		}
		for i := 1; i < 5; i++ { // a bit of a limb, or all the next one's bits below it
			e := limb.Elem{small}
			e[i]++
			f := limb.Elem{small + 1<<51}
			for k := 1; k < i; k++ {
				f[k] = 1<<51 - 1
			}
			if i > 1 && e.Key() != f.Key() {
				t.Errorf("the keys of %v and %v differ", e, f)
			}
		}
	}
}

// checkSums: Add and Sub of two loose elements, both ways.
func checkSums(t *testing.T, a, b limb.Elem) {
	t.Helper()
	x, y := number(a), number(b)
	check(t, "Add", limb.Add(a, b), new(big.Int).Add(x, y))
	check(t, "Add, the other way", limb.Add(b, a), new(big.Int).Add(x, y))
	check(t, "Sub", limb.Sub(a, b), new(big.Int).Sub(x, y))
	check(t, "Sub, the other way", limb.Sub(b, a), new(big.Int).Sub(y, x))
	check(t, "Sub of one and itself", limb.Sub(a, a), new(big.Int))
}

// P2.2: sums and differences.
func TestAddAndSub(t *testing.T) {
	for _, a := range edges() {
		for _, b := range edges() {
			checkSums(t, full(a), full(b))
			for i := range 5 {
				var x, y limb.Elem
				x[i], y[i] = a, b
				checkSums(t, x, y)
				y = limb.Elem{}
				y[(i+1)%5] = b
				checkSums(t, x, y)
			}
		}
	}
	random := rand.New(rand.NewSource(3))
	for range 3000 {
		checkSums(t, edgeElem(random), edgeElem(random))
		checkSums(t, looseElem(random), looseElem(random))
	}
	less := bytesOf(new(big.Int).Sub(modulus(), big.NewInt(1)))
	if got := limb.Sub(limb.Small(0), limb.Small(1)).Key(); got != less {
		t.Errorf("0 less 1 is %x", got)
	}
}

// P2.2: sums of none, of one that isn't tight, and of many.
func TestSum(t *testing.T) {
	check(t, "the sum of none", limb.Sum(), new(big.Int))
	check(t, "the sum of an empty list", limb.Sum([]limb.Elem{}...), new(big.Int))
	check(t, "the sum of no list", limb.Sum(nil...), new(big.Int))
	random := rand.New(rand.NewSource(4))
	for range 500 {
		e, f := edgeElem(random), looseElem(random)
		check(t, "the sum of one", limb.Sum(e), number(e))
		check(t, "the sum of two", limb.Sum(e, f), new(big.Int).Add(number(e), number(f)))
		check(t, "the sum of three", limb.Sum(f, e, f), new(big.Int).Add(number(e), new(big.Int).Add(number(f), number(f))))
	}
	check(t, "the sum of one at the bound", limb.Sum(full(1<<54)), number(full(1<<54)))
	for _, n := range []int{2, 3, 5, 17, 511, 1024, 1025, 10000} { // past 1024 the limbs alone would not hold it
		l := make([]limb.Elem, n)
		mixed, wanted := make([]limb.Elem, n), new(big.Int)
		for i := range l {
			l[i], mixed[i] = full(1<<54), looseElem(random)
			wanted.Add(wanted, number(mixed[i]))
		}
		check(t, "the sum of many", limb.Sum(l...), new(big.Int).Mul(big.NewInt(int64(n)), number(full(1<<54))))
		check(t, "the sum of many others", limb.Sum(mixed...), wanted)
	}
}

// P2.3: Of of Key is the same number, from any key.
func TestOfKey(t *testing.T) {
	random := rand.New(rand.NewSource(5))
	for range 5000 {
		var k api.Key
		random.Read(k[:])
		e := limb.Of(k)
		check(t, "Of", e, read(k))
		check(t, "Of of Key", limb.Of(e.Key()), read(k))
	}
}

// P2.3: what is added and taken away again, whatever stands for it, leaves one key.
func TestOneKey(t *testing.T) {
	random := rand.New(rand.NewSource(6))
	for range 5000 {
		e, f := edgeElem(random), looseElem(random)
		if e.Key() != limb.Sub(limb.Add(e, f), f).Key() || e.Key() != limb.Add(limb.Sub(e, f), f).Key() || e.Key() != limb.Sum(f, e, limb.Sub(limb.Elem{}, f)).Key() {
			t.Fatalf("%v and %v: another key", e, f)
		}
	}
}

// Rules: what is handed in is left as it was, spare room included; the same call answers the same again.
func TestNothingIsKept(t *testing.T) {
	room := []limb.Elem{full(1 << 54), {1}, {2}, full(77)}
	sum := limb.Sum(room[:2]...)
	wanted := []limb.Elem{full(1 << 54), {1}, {2}, full(77)}
	for i := range room {
		if room[i] != wanted[i] {
			t.Errorf("Sum changed element %d", i)
		}
	}
	a, b := full(1<<54), full(1<<53)
	k := a.Key()
	k[0] ^= 255
	if limb.Add(a, b) != limb.Add(a, b) || limb.Sub(a, b) != limb.Sub(a, b) || limb.Sum(room[:2]...) != sum || a != full(1<<54) || b != full(1<<53) || a.Key() == k {
		t.Error("a call changed something")
	}
}

// P1: no call panics at any arguments of which something is promised; Tight and Loose at none at all.
func TestNoPanic(t *testing.T) {
	for _, l := range edges() {
		for _, n := range edges() {
			a, b := full(l), limb.Elem{n, l, n, l, n}
			limb.Add(a, b).Key()
			limb.Sub(a, b).Key()
			limb.Sum(a, b, a).Key()
			a.Key()
		}
	}
	for _, l := range []uint64{1<<54 + 1, 1 << 63, math.MaxUint64} {
		if full(l).Tight() || full(l).Loose() {
			t.Errorf("limbs of %d are tight or loose", l)
		}
	}
	limb.Of(api.Key{}).Key()
	limb.Small(math.MaxUint32).Key()
	limb.Sum().Key()
}
