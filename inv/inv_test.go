package inv_test

import (
	"math"
	"math/big"
	"math/rand"
	"slices"
	"testing"

	"sapwood/api"
	"sapwood/inv"
	"sapwood/limb"
	"sapwood/mulf"
)

// modulus: 2^255 - 19.
func modulus() *big.Int {
	m := big.NewInt(1)
	return m.Lsh(m, 255).Sub(m, big.NewInt(19))
}

// number: what an element stands for, reckoned by the document's words alone.
func number(e limb.Elem) *big.Int {
	n := new(big.Int)
	for i, l := range e {
		x := new(big.Int).SetUint64(l)
		n.Add(n, x.Lsh(x, uint(51*i)))
	}
	return n.Mod(n, modulus())
}

// whole: all 32 bytes of a key as a number, the lowest first.
func whole(k api.Key) *big.Int {
	slices.Reverse(k[:])
	return new(big.Int).SetBytes(k[:])
}

// keyOf: the key of which that number is the whole.
func keyOf(n *big.Int) api.Key {
	var k api.Key
	n.FillBytes(k[:])
	slices.Reverse(k[:])
	return k
}

// check: an answer has no limb above 2^52, and stands for the wanted number.
func check(t *testing.T, what string, got limb.Elem, wanted *big.Int) {
	t.Helper()
	if !got.Tight() || slices.Max(got[:]) > 1<<52 {
		t.Errorf("%s: %v isn't tight", what, got)
	}
	if n := number(got); n.Cmp(wanted) != 0 {
		t.Errorf("%s: %v stands for %v, wanted %v", what, got, n, wanted)
	}
}

// full: an element whose limbs are all one.
func full(l uint64) limb.Elem { return limb.Elem{l, l, l, l, l} }

// looseElem: some loose element.
func looseElem(random *rand.Rand) limb.Elem {
	var e limb.Elem
	for i := range e {
		e[i] = random.Uint64() % (1<<54 + 1)
	}
	return e
}

// anyKey: some key.
func anyKey(random *rand.Rand) api.Key {
	var k api.Key
	random.Read(k[:])
	return k
}

// filled: a key whose bytes are all one.
func filled(b byte) api.Key {
	var k api.Key
	for i := range k {
		k[i] = b
	}
	return k
}

// about: the modulus, so many times, and a few more or less, limb by limb.
func about(times uint64, more int) limb.Elem {
	e := full(times * (1<<51 - 1))
	e[0] = times*(1<<51-19) + uint64(more)
	return e
}

// stands: elements at the bounds, in each place alone and in all at once, and those about the modulus and its doubles.
func stands() []limb.Elem {
	l := []limb.Elem{{}, {1}, {2}, {19}, about(1, -20), about(1, 18), about(1, 19)}
	for times := range uint64(8) {
		for more := -2; more <= 2; more++ {
			if times > 0 || more >= 0 {
				l = append(l, about(times, more))
			}
		}
	}
	for _, bound := range []uint64{1<<51 - 1, 1 << 51, 1 << 52, 1 << 54} {
		l = append(l, full(bound))
		for i := range 5 {
			var alone limb.Elem
			alone[i] = bound
			l = append(l, alone)
		}
	}
	return l
}

// checkPower: a power is what it is by the words.
func checkPower(t *testing.T, a limb.Elem, k api.Key) {
	t.Helper()
	check(t, "Power", inv.Power(a, k), new(big.Int).Exp(number(a), whole(k), modulus()))
	if t.Failed() {
		t.Fatalf("Power of %v and %x", a, k)
	}
}

// P4.1: each of some elements, to each of some powers: 0, 1, all bits set, the modulus and what is just about it.
func TestPower(t *testing.T) {
	powers := []api.Key{{}, {1}, {2}, {3}, {255}, {0, 1}, {31: 1}, {31: 127}, {31: 128}, {1, 31: 128}, filled(255), filled(0xaa), filled(0x55)}
	for i := -2; i <= 2; i++ {
		powers = append(powers, keyOf(new(big.Int).Add(modulus(), big.NewInt(int64(i)))), keyOf(new(big.Int).Add(new(big.Int).Lsh(modulus(), 1), big.NewInt(int64(i)))))
	}
	for _, a := range stands() {
		for _, k := range powers {
			checkPower(t, a, k)
		}
	}
	if got := inv.Power(limb.Small(2), api.Key{255}).Key(); got != (api.Key{19}) {
		t.Errorf("2 to the power of 255 has the key %x", got)
	}
}

// P4.1: each bit of the power counts at its place, the highest one, too; so does each that is missing.
func TestPowerOfEachBit(t *testing.T) {
	random := rand.New(rand.NewSource(1))
	for bit := range 256 {
		var k api.Key
		k[bit/8] = 1 << (bit % 8)
		checkPower(t, limb.Small(3), k)
		checkPower(t, looseElem(random), k)
		for i := range k {
			k[i] ^= 255
		}
		checkPower(t, limb.Small(5), k)
		checkPower(t, full(1<<54), k)
	}
}

// P4.1: whatever is loose, to whatever power; and 1, where the power is 0, of 0, too.
func TestPowerOfMany(t *testing.T) {
	random := rand.New(rand.NewSource(2))
	for range 500 {
		a, k := looseElem(random), anyKey(random)
		checkPower(t, a, k)
		checkPower(t, a, api.Key{})
		checkPower(t, a, api.Key{1})
		checkPower(t, a, api.Key{byte(random.Int())})
	}
	for times := range uint64(8) {
		check(t, "0 to the power of 0", inv.Power(about(times, 0), api.Key{}), big.NewInt(1))
		check(t, "0 to the power of 1", inv.Power(about(times, 0), api.Key{1}), new(big.Int))
		check(t, "0 to the highest power", inv.Power(about(times, 0), filled(255)), new(big.Int))
	}
}

// P4.1, P4.3: what isn't 0, times its Invert, is 1, and Invert of that is what it was; 0 of 0.
func checkInvert(t *testing.T, a limb.Elem) {
	t.Helper()
	got := inv.Invert(a)
	wanted := new(big.Int)
	if number(a).Sign() != 0 {
		wanted.ModInverse(number(a), modulus())
		check(t, "what it is with its Invert", mulf.Mul(a, got), big.NewInt(1))
		check(t, "its Invert with what it is", mulf.Mul(got, a), big.NewInt(1))
	}
	check(t, "Invert", got, wanted)
	check(t, "Invert of Invert", inv.Invert(got), number(a))
	if t.Failed() {
		t.Fatalf("of %v", a)
	}
}

// P4.1, P4.3: the bounds, the least, the greatest, those about the modulus, and many others.
func TestInvert(t *testing.T) {
	for _, a := range stands() {
		checkInvert(t, a)
	}
	for n := range uint32(300) {
		checkInvert(t, limb.Small(n))
		checkInvert(t, limb.Sub(limb.Elem{}, limb.Small(n)))
	}
	checkInvert(t, limb.Small(math.MaxUint32))
	random := rand.New(rand.NewSource(3))
	for range 500 {
		checkInvert(t, looseElem(random))
		checkInvert(t, limb.Of(anyKey(random)))
	}
	half := new(big.Int).Lsh(big.NewInt(1), 254)
	if got := inv.Invert(limb.Small(2)).Key(); got != keyOf(half.Sub(half, big.NewInt(9))) {
		t.Errorf("Invert of 2 has the key %x", got)
	}
	if inv.Invert(limb.Small(1)).Key() != (api.Key{1}) || inv.Invert(limb.Elem{}).Key() != (api.Key{}) {
		t.Error("Invert of 1 or of 0 is another number")
	}
}

// checkSwap: limb by limb, whatever the limbs are.
func checkSwap(t *testing.T, bit int, other bool, a, b limb.Elem) {
	t.Helper()
	first, second := a, b
	if other {
		first, second = b, a
	}
	if x, y := inv.Swap(bit, a, b); x != first || y != second {
		t.Errorf("Swap(%d, %v, %v) is %v, %v", bit, a, b, x, y)
	}
}

// P4.2: the lowest bit alone says which, of negative numbers too; and the limbs are left as they are, loose or not.
func TestSwap(t *testing.T) {
	bits := map[int]bool{0: false, 1: true, 2: false, 3: true, 4: false, 127: true, 128: false, 254: false, 255: true, 256: false, 257: true, 1 << 31: false, 1<<31 + 1: true, 1 << 32: false, 1<<32 + 1: true,
		-1: true, -2: false, -3: true, -4: false, -255: true, -256: false, -257: true, math.MaxInt: true, math.MaxInt - 1: false, math.MinInt: false, math.MinInt + 1: true}
	limbs := []uint64{0, 1, 1<<51 - 1, 1 << 51, 1 << 52, 1<<52 + 1, 1 << 54, 1<<54 + 1, 1 << 63, 1<<63 + 1, 0x5555555555555555, 0xaaaaaaaaaaaaaaaa, math.MaxUint64 - 1, math.MaxUint64}
	random := rand.New(rand.NewSource(4))
	for bit, other := range bits {
		for _, l := range limbs {
			for _, m := range limbs {
				checkSwap(t, bit, other, full(l), full(m))
				for i := range 5 {
					var a, b limb.Elem
					a[i], b[(i+1)%5] = l, m
					checkSwap(t, bit, other, a, b)
				}
			}
		}
		for range 100 {
			var a, b limb.Elem
			for i := range a {
				a[i], b[i] = random.Uint64(), random.Uint64()
			}
			checkSwap(t, bit, other, a, b)
		}
		checkSwap(t, bit, other, limb.Elem{1, 2, 3, 4, 5}, limb.Elem{6, 7, 8, 9, 10})
		checkSwap(t, bit, other, about(1, 0), limb.Elem{})
	}
}

// checkEqual: Equal and Zero say what the numbers say.
func checkEqual(t *testing.T, a, b limb.Elem) {
	t.Helper()
	wanted := number(a).Cmp(number(b)) == 0
	if inv.Equal(a, b) != wanted || inv.Equal(b, a) != wanted || inv.Zero(limb.Sub(a, b)) != wanted {
		t.Errorf("Equal of %v and %v, or Zero of their difference, isn't %v", a, b, wanted)
	}
	if inv.Zero(a) != (number(a).Sign() == 0) {
		t.Errorf("Zero of %v is %v", a, inv.Zero(a))
	}
}

// P4.2: do two stand for one number, whatever stands for it?
func TestEqualAndZero(t *testing.T) {
	for _, a := range stands() {
		for _, b := range stands() {
			checkEqual(t, a, b)
		}
	}
	for times := range uint64(8) {
		for more := range 40 {
			checkEqual(t, about(times, more), limb.Small(uint32(more)))
			checkEqual(t, about(times+1, -more), limb.Sub(limb.Elem{}, limb.Small(uint32(more))))
			checkEqual(t, about(times, more), about(7-times, more+1))
		}
	}
	random := rand.New(rand.NewSource(5))
	for range 500 {
		a, b := looseElem(random), looseElem(random)
		checkEqual(t, a, b)
		checkEqual(t, a, limb.Of(a.Key()))
		checkEqual(t, a, limb.Sub(limb.Add(a, b), b))
	}
}

// P4.2: numbers that differ in one bit alone, whichever, aren't Equal, nor is one that is a single bit Zero.
func TestOneBitDiffers(t *testing.T) {
	random := rand.New(rand.NewSource(6))
	e := limb.Of(anyKey(random))
	for bit := range 255 {
		var k api.Key
		k[bit/8] = 1 << (bit % 8)
		one := limb.Of(k)
		checkEqual(t, one, limb.Elem{})
		checkEqual(t, e, limb.Add(e, one))
		checkEqual(t, full(1<<54), limb.Sub(full(1<<54), one))
	}
}

// P4.3: inverts of products, and powers of powers, come back.
func TestBack(t *testing.T) {
	random := rand.New(rand.NewSource(7))
	for range 300 {
		a, b := looseElem(random), limb.Of(anyKey(random))
		if inv.Zero(a) || inv.Zero(b) {
			continue
		}
		if !inv.Equal(mulf.Mul(mulf.Mul(a, b), inv.Invert(b)), a) || !inv.Equal(inv.Invert(mulf.Mul(a, b)), mulf.Mul(inv.Invert(a), inv.Invert(b))) {
			t.Fatalf("%v and %v: another product", a, b)
		}
		if !inv.Equal(inv.Power(inv.Invert(a), api.Key{77}), inv.Invert(inv.Power(a, api.Key{77}))) {
			t.Fatalf("%v: another power", a)
		}
	}
}

// Rules: the same call answers the same again, and what is handed in is left as it was.
func TestNothingIsKept(t *testing.T) {
	a, b, k := full(1<<54), limb.Elem{1, 2, 3, 4, 5}, filled(3)
	power, invert := inv.Power(a, k), inv.Invert(b)
	x, y := inv.Swap(1, a, b)
	x[0], y[4] = 77, 78
	if a != full(1<<54) || b != (limb.Elem{1, 2, 3, 4, 5}) || k != filled(3) || inv.Power(a, k) != power || inv.Invert(b) != invert {
		t.Error("a call changed something")
	}
}

// P1: no call panics at loose elements, nor Swap at any.
func TestNoPanic(t *testing.T) {
	for _, a := range stands() {
		inv.Power(a, api.Key{})
		inv.Power(a, filled(255))
		inv.Invert(a)
		inv.Equal(a, full(1<<54))
		inv.Zero(a)
		inv.Swap(math.MinInt, a, full(math.MaxUint64))
	}
}
