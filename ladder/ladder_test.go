package ladder_test

import (
	"math/big"
	"math/rand"
	"slices"
	"testing"

	"sapwood/api"
	"sapwood/ladder"
	"sapwood/limb"
)

// modulus: 2^255 - 19, reckoned once, as it is asked so often. (Nothing changes it.)
var modulus = new(big.Int).Sub(new(big.Int).Lsh(big.NewInt(1), 255), big.NewInt(19))

// number: what an element stands for, reckoned by the document's words alone.
func number(e limb.Elem) *big.Int {
	n := new(big.Int)
	for i, l := range e {
		x := new(big.Int).SetUint64(l)
		n.Add(n, x.Lsh(x, uint(51*i)))
	}
	return n.Mod(n, modulus)
}

// whole: all 32 bytes of a key as a number, the lowest first.
func whole(k api.Key) *big.Int {
	slices.Reverse(k[:])
	return new(big.Int).SetBytes(k[:])
}

// keyOf: the key of which that number, modulo 2^256, is the whole.
func keyOf(n *big.Int) api.Key {
	var k api.Key
	n = new(big.Int).Mod(n, new(big.Int).Lsh(big.NewInt(1), 256))
	n.FillBytes(k[:])
	slices.Reverse(k[:])
	return k
}

// decimal: a number, as it is written.
func decimal(t *testing.T, text string) *big.Int {
	t.Helper()
	n, ok := new(big.Int).SetString(text, 10)
	if !ok {
		t.Fatalf("%s is no number", text)
	}
	return n
}

// plus, less, times, undo: of numbers, modulo 2^255 - 19.
func plus(a, b *big.Int) *big.Int { n := new(big.Int).Add(a, b); return n.Mod(n, modulus) }

func less(a, b *big.Int) *big.Int { n := new(big.Int).Sub(a, b); return n.Mod(n, modulus) }

func times(l ...*big.Int) *big.Int {
	n := big.NewInt(1)
	for _, x := range l {
		n.Mul(n, x).Mod(n, modulus)
	}
	return n
}

func undo(a *big.Int) *big.Int {
	if a.Sign() == 0 {
		return new(big.Int)
	}
	return new(big.Int).ModInverse(a, modulus)
}

// pair: a point's x, as X by Z.
type pair struct{ x, z *big.Int }

// stepByWords: what a bit of 0 makes of two points, reckoned by the document's words alone.
func stepByWords(x *big.Int, p, q pair) (pair, pair) {
	a, b, c, d := plus(p.x, p.z), less(p.x, p.z), plus(q.x, q.z), less(q.x, q.z)
	e := less(times(a, a), times(b, b))
	sum, rest := plus(times(d, a), times(c, b)), less(times(d, a), times(c, b))
	first := pair{times(a, a, b, b), times(e, plus(times(a, a), times(big.NewInt(121665), e)))}
	return first, pair{times(sum, sum), times(x, rest, rest)}
}

// timesByWords: a point, so many times, reckoned by the document's words alone.
func timesByWords(k, x *big.Int) *big.Int {
	p, q := pair{big.NewInt(1), new(big.Int)}, pair{x, big.NewInt(1)}
	for bit := 255; bit >= 0; bit-- {
		if k.Bit(bit) == 1 {
			q, p = stepByWords(x, q, p)
		} else {
			p, q = stepByWords(x, p, q)
		}
	}
	return times(p.x, undo(p.z))
}

// point: one of the curve f y^2 = x^3 + 486662 x^2 + x, whose f is such that y is 1 where x is the one that is asked; nil at infinity. That is the curve, or its twist, as f is a square or none; so this holds of each x of which f isn't 0.
type point struct{ x, y *big.Int }

// rise: x^3 + 486662 x^2 + x.
func rise(x *big.Int) *big.Int {
	return plus(plus(times(x, x, x), times(big.NewInt(486662), x, x)), x)
}

// together: two points' sum, by chord and tangent, without any ladder.
func together(f *big.Int, p, q *point) *point {
	if p == nil {
		return q
	}
	if q == nil {
		return p
	}
	var slope *big.Int
	switch {
	case p.x.Cmp(q.x) != 0:
		slope = times(less(q.y, p.y), undo(less(q.x, p.x)))
	case p.y.Cmp(q.y) != 0 || p.y.Sign() == 0:
		return nil
	default:
		tangent := plus(plus(times(big.NewInt(3), p.x, p.x), times(big.NewInt(2*486662), p.x)), big.NewInt(1))
		slope = times(tangent, undo(times(big.NewInt(2), f, p.y)))
	}
	x := less(less(less(times(f, slope, slope), big.NewInt(486662)), p.x), q.x)
	return &point{x, less(times(slope, less(p.x, x)), p.y)}
}

// timesByChords: the x of a point, so many times, by chord and tangent.
func timesByChords(k, x *big.Int) *big.Int {
	f := rise(x)
	if f.Sign() == 0 {
		return new(big.Int) // x is 0: twice that point is at infinity
	}
	one := &point{x, big.NewInt(1)}
	var sum *point
	for bit := k.BitLen() - 1; bit >= 0; bit-- {
		sum = together(f, sum, sum)
		if k.Bit(bit) == 1 {
			sum = together(f, sum, one)
		}
	}
	if sum == nil {
		return new(big.Int)
	}
	return sum.x
}

// check: an answer has no limb above 2^52, and stands for the wanted number.
func check(t *testing.T, what string, got limb.Elem, wanted *big.Int) {
	t.Helper()
	if !got.Tight() || slices.Max(got[:]) > 1<<52 {
		t.Errorf("%s: %v isn't tight", what, got)
	}
	if n := number(got); n.Cmp(wanted) != 0 {
		t.Errorf("%s: %v stands for %v, wanted %v", what, got, n, wanted)
	}
}

// full: an element whose limbs are all one.
func full(l uint64) limb.Elem { return limb.Elem{l, l, l, l, l} }

// looseElem: some loose element.
func looseElem(random *rand.Rand) limb.Elem {
	var e limb.Elem
	for i := range e {
		e[i] = random.Uint64() % (1<<54 + 1)
	}
	return e
}

// anyKey: some key.
func anyKey(random *rand.Rand) api.Key {
	var k api.Key
	random.Read(k[:])
	return k
}

// bit: the key of a power of 2.
func bit(i int) api.Key {
	var k api.Key
	k[i/8] = 1 << (i % 8)
	return k
}

// other: a key with each bit turned.
func other(k api.Key) api.Key {
	for i := range k {
		k[i] ^= 255
	}
	return k
}

// about: the modulus, so many times, and a few more or less, limb by limb.
func about(times uint64, more int) limb.Elem {
	e := full(times * (1<<51 - 1))
	e[0] = times*(1<<51-19) + uint64(more)
	return e
}

// stands: elements at the bounds, and those about the modulus and its doubles.
func stands() []limb.Elem {
	l := []limb.Elem{{}, {1}, {2}, {9}, about(1, -9), about(1, 18), about(1, 19), full(1<<51 - 1), full(1 << 51), full(1 << 52), full(1<<54 - 1), full(1 << 54)}
	for times := range uint64(8) {
		for more := -1; more <= 1; more++ {
			if times > 0 || more >= 0 {
				l = append(l, about(times, more))
			}
		}
	}
	for i := range 5 {
		var alone limb.Elem
		alone[i] = 1 << 54
		l = append(l, alone)
	}
	return l
}

// checkStep: a step is what it is by the words.
func checkStep(t *testing.T, x limb.Elem, a, b ladder.Pair) {
	t.Helper()
	p, q := ladder.Step(x, a, b)
	first, second := stepByWords(number(x), pair{number(a.X), number(a.Z)}, pair{number(b.X), number(b.Z)})
	check(t, "x2", p.X, first.x)
	check(t, "z2", p.Z, first.z)
	check(t, "x3", q.X, second.x)
	check(t, "z3", q.Z, second.z)
	if t.Failed() {
		t.Fatalf("Step of %v, %v and %v", x, a, b)
	}
}

// P5.1: steps at the bounds, whichever of the five elements is there, and of whatever is loose.
func TestStep(t *testing.T) {
	random := rand.New(rand.NewSource(1))
	l := stands()
	for _, e := range l {
		for i := range 5 {
			five := [5]limb.Elem{looseElem(random), looseElem(random), looseElem(random), looseElem(random), looseElem(random)}
			five[i] = e
			checkStep(t, five[0], ladder.Pair{X: five[1], Z: five[2]}, ladder.Pair{X: five[3], Z: five[4]})
		}
		checkStep(t, e, ladder.Pair{X: e, Z: e}, ladder.Pair{X: e, Z: e})
		checkStep(t, e, ladder.Pair{X: limb.Small(1)}, ladder.Pair{X: e, Z: limb.Small(1)})
	}
	some := func() limb.Elem {
		if random.Intn(2) == 0 {
			return l[random.Intn(len(l))]
		}
		return looseElem(random)
	}
	for range 5000 {
		checkStep(t, some(), ladder.Pair{X: some(), Z: some()}, ladder.Pair{X: some(), Z: some()})
	}
}

// P5.1: a step by hand: of x2 = 3, z2 = 1, x3 = 5, z3 = 2 with x = 7: A 4, B 2, C 7, D 3, E 12.
func TestStepByHand(t *testing.T) {
	three := ladder.Pair{X: limb.Small(3), Z: limb.Small(1)}
	five := ladder.Pair{X: limb.Small(5), Z: limb.Small(2)}
	p, q := ladder.Step(limb.Small(7), three, five)
	check(t, "x2", p.X, big.NewInt(64))
	check(t, "z2", p.Z, big.NewInt(12*(16+121665*12)))
	check(t, "x3", q.X, big.NewInt(26*26))
	check(t, "z3", q.Z, big.NewInt(7*2*2))
	p, q = ladder.Step(limb.Small(9), ladder.Pair{X: limb.Small(1)}, ladder.Pair{X: limb.Small(9), Z: limb.Small(1)})
	check(t, "x2 of none", p.X, big.NewInt(1))
	check(t, "z2 of none", p.Z, new(big.Int))
	check(t, "x3 of once", q.X, big.NewInt(4*81))
	check(t, "z3 of once", q.Z, big.NewInt(4*9))
}

// P5.1: steps make points twice, and together, by chord and tangent: from so many times and once more, twice as many times and once more.
func TestStepOfPoints(t *testing.T) {
	random := rand.New(rand.NewSource(2))
	for range 20 {
		x := limb.Of(anyKey(random))
		k := big.NewInt(random.Int63())
		at := func(n *big.Int) ladder.Pair { // by any Z, as X by Z is what counts
			z := looseElem(random)
			return ladder.Pair{X: limb.Of(keyOf(times(timesByChords(n, number(x)), number(z)))), Z: z}
		}
		next := new(big.Int).Add(k, big.NewInt(1))
		p, q := ladder.Step(x, at(k), at(next))
		check(t, "the first one twice", ladder.Affine(p), timesByChords(new(big.Int).Lsh(k, 1), number(x)))
		check(t, "both together", ladder.Affine(q), timesByChords(new(big.Int).Add(k, next), number(x)))
	}
}

// P5.1: X times what undoes Z; 0, where Z is 0, whatever stands for it.
func TestAffine(t *testing.T) {
	random := rand.New(rand.NewSource(3))
	for _, e := range stands() {
		check(t, "Affine of one and itself", ladder.Affine(ladder.Pair{X: e, Z: e}), times(number(e), undo(number(e))))
		check(t, "Affine by 1", ladder.Affine(ladder.Pair{X: e, Z: limb.Small(1)}), number(e))
		check(t, "Affine by 0", ladder.Affine(ladder.Pair{X: e}), new(big.Int))
		for _, z := range append(stands(), looseElem(random)) {
			check(t, "Affine", ladder.Affine(ladder.Pair{X: e, Z: z}), times(number(e), undo(number(z))))
		}
	}
	for range 300 {
		p := ladder.Pair{X: looseElem(random), Z: looseElem(random)}
		check(t, "Affine", ladder.Affine(p), times(number(p.X), undo(number(p.Z))))
	}
	for times := range uint64(8) {
		check(t, "Affine by 0", ladder.Affine(ladder.Pair{X: full(1 << 54), Z: about(times, 0)}), new(big.Int))
	}
	check(t, "6 by 2", ladder.Affine(ladder.Pair{X: limb.Small(6), Z: limb.Small(2)}), big.NewInt(3))
}

// checkTimes: so many times is what it is by the words.
func checkTimes(t *testing.T, k api.Key, x limb.Elem) {
	t.Helper()
	check(t, "Times", ladder.Times(k, x), timesByWords(whole(k), number(x)))
	if t.Failed() {
		t.Fatalf("Times of %x and %v", k, x)
	}
}

// P5.1: each bit of the key counts at its place, the highest one, too; so does each that is missing. Held against chord and tangent, too, of a point of the curve and one of the twist.
func TestTimesOfEachBit(t *testing.T) {
	for i := range 256 {
		for _, k := range []api.Key{bit(i), other(bit(i))} {
			checkTimes(t, k, limb.Small(9))
			checkTimes(t, k, full(1<<54))
			if i%8 == 0 || i > 250 {
				check(t, "Times, by chords", ladder.Times(k, limb.Small(9)), timesByChords(whole(k), big.NewInt(9)))
				check(t, "Times, of the twist", ladder.Times(k, limb.Small(2)), timesByChords(whole(k), big.NewInt(2)))
			}
		}
	}
	root := func(x int64) int { return big.Jacobi(rise(big.NewInt(x)), modulus) }
	if root(9) != 1 || root(2) != -1 {
		t.Error("the test itself is wrong: 9 is of the curve, 2 of the twist")
	}
}

// P5.1: few times, by chord and tangent; once is x, and twice is told by a formula of its own.
func TestFewTimes(t *testing.T) {
	for _, x := range []int64{1, 2, 3, 5, 9, 16, 486662} {
		for k := range int64(40) {
			check(t, "few times", ladder.Times(api.Key{byte(k)}, limb.Small(uint32(x))), timesByChords(big.NewInt(k), big.NewInt(x)))
		}
		n := big.NewInt(x)
		square := less(times(n, n), big.NewInt(1))
		check(t, "twice", ladder.Times(api.Key{2}, limb.Small(uint32(x))), times(square, square, undo(times(big.NewInt(4), rise(n)))))
	}
}

// P5.1: whatever key, whatever loose element; and what stands at the bounds.
func TestTimesOfMany(t *testing.T) {
	random := rand.New(rand.NewSource(4))
	for i := range 200 {
		k, x := anyKey(random), looseElem(random)
		checkTimes(t, k, x)
		checkTimes(t, k, limb.Of(anyKey(random)))
		if i < 40 {
			check(t, "Times, by chords", ladder.Times(k, x), timesByChords(whole(k), number(x)))
		}
	}
	for _, x := range stands() {
		for _, k := range []api.Key{{}, {1}, {2}, {31: 128}, {1, 31: 128}, {248, 31: 127}, other(api.Key{}), anyKey(random)} {
			checkTimes(t, k, x)
		}
	}
}

// order: how many times the point whose x is 9 is at infinity first.
func order(t *testing.T) *big.Int {
	t.Helper()
	return new(big.Int).Add(new(big.Int).Lsh(big.NewInt(1), 252), decimal(t, "27742317777372353535851937790883648493"))
}

// P5.1: as many times as a point's order it is at infinity, which is 0; and about that it comes back.
func TestOrder(t *testing.T) {
	nine, n := limb.Small(9), order(t)
	for i := int64(1); i <= 15; i++ { // 15 times that is still within 256 bits
		at := new(big.Int).Mul(n, big.NewInt(i))
		check(t, "the order", ladder.Times(keyOf(at), nine), new(big.Int))
		for _, more := range []int64{1, 2, 7} {
			wanted := number(ladder.Times(api.Key{byte(more)}, nine))
			check(t, "behind the order", ladder.Times(keyOf(new(big.Int).Add(at, big.NewInt(more))), nine), wanted)
			check(t, "ahead of the order", ladder.Times(keyOf(new(big.Int).Sub(at, big.NewInt(more))), nine), wanted)
		}
	}
}

// P5.1: points that are soon at infinity: 0 of 2 times, 1 and -1 of 4, two more of 8.
func TestSoonAtInfinity(t *testing.T) {
	small := map[int64]*big.Int{
		2:  new(big.Int),
		4:  big.NewInt(1),
		-4: less(modulus, big.NewInt(1)),
		8:  decimal(t, "325606250916557431795983626356110631294008115727848805560023387167927233504"),
		-8: decimal(t, "39382357235489614581723060781553021112529911719440698176882885853963445705823"),
	}
	for n, x := range small {
		n = max(n, -n)
		e := limb.Of(keyOf(x))
		for k := range int64(41) {
			got := ladder.Times(api.Key{byte(k)}, e)
			check(t, "few times", got, timesByWords(big.NewInt(k), x))
			if k%n == 0 {
				check(t, "at infinity", got, new(big.Int))
			} else {
				check(t, "as often behind infinity", got, number(ladder.Times(api.Key{byte(k % n)}, e)))
			}
			if k%n == 1 {
				check(t, "once more", got, x)
			}
			if n == 8 && k%n == 2 || n == 4 && k%n == 1 {
				check(t, "of order 4: its square", limb.Of(keyOf(times(number(got), number(got)))), big.NewInt(1))
			}
		}
		for _, k := range []api.Key{{248, 31: 127}, {31: 128}, other(api.Key{7})} {
			check(t, "a multiple of 8", ladder.Times(k, e), new(big.Int))
		}
	}
}

// P5.1, P5.2: so many times hangs on the number, not on what stands for it.
func TestManyStandForOne(t *testing.T) {
	random := rand.New(rand.NewSource(5))
	for more := range 20 {
		k := anyKey(random)
		wanted := number(ladder.Times(k, limb.Small(uint32(more))))
		for times := range uint64(8) {
			check(t, "Times", ladder.Times(k, about(times, more)), wanted)
		}
	}
}

// P5.2: 0 times is 0, once is x, of whatever is loose.
func TestNoneAndOnce(t *testing.T) {
	random := rand.New(rand.NewSource(6))
	l := stands()
	for range 100 {
		l = append(l, looseElem(random))
	}
	for _, x := range l {
		check(t, "0 times", ladder.Times(api.Key{}, x), new(big.Int))
		check(t, "once", ladder.Times(api.Key{1}, x), number(x))
	}
}

// P5.2: so many times, and then so many times, hangs on no order, and is the product of both, where that is within 256 bits.
func TestNoOrder(t *testing.T) {
	random := rand.New(rand.NewSource(7))
	for _, x := range append(stands(), limb.Small(9), looseElem(random), looseElem(random), limb.Of(anyKey(random))) {
		a, b := anyKey(random), anyKey(random)
		check(t, "both ways", ladder.Times(a, ladder.Times(b, x)), number(ladder.Times(b, ladder.Times(a, x))))
		var half, rest api.Key
		copy(half[:16], a[:])
		copy(rest[:16], b[:])
		product := keyOf(new(big.Int).Mul(whole(half), whole(rest)))
		check(t, "the product", ladder.Times(half, ladder.Times(rest, x)), number(ladder.Times(product, x)))
		check(t, "the product, the other way", ladder.Times(rest, ladder.Times(half, x)), number(ladder.Times(product, x)))
	}
	seven := ladder.Times(api.Key{7}, limb.Small(9))
	check(t, "5 times 7 times", ladder.Times(api.Key{5}, seven), number(ladder.Times(api.Key{35}, limb.Small(9))))
}

// Rules: the same call answers the same again, and what is handed in is left as it was.
func TestNothingIsKept(t *testing.T) {
	k, x := api.Key{31: 255}, full(1<<54)
	a, b := ladder.Pair{X: full(1 << 54), Z: limb.Elem{1, 2}}, ladder.Pair{X: limb.Elem{3}, Z: full(77)}
	p, q := ladder.Step(x, a, b)
	n, m := ladder.Times(k, x), ladder.Affine(a)
	again, and := ladder.Step(x, a, b)
	if p != again || q != and || ladder.Times(k, x) != n || ladder.Affine(a) != m || k != (api.Key{31: 255}) || x != full(1<<54) ||
		a != (ladder.Pair{X: full(1 << 54), Z: limb.Elem{1, 2}}) || b != (ladder.Pair{X: limb.Elem{3}, Z: full(77)}) {
		t.Error("a call changed something")
	}
}

// P1: no call panics at loose elements.
func TestNoPanic(t *testing.T) {
	for _, e := range stands() {
		p := ladder.Pair{X: e, Z: e}
		ladder.Step(e, p, ladder.Pair{})
		ladder.Step(e, ladder.Pair{}, p)
		ladder.Affine(p)
		ladder.Times(other(api.Key{}), e)
	}
}
