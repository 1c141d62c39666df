package mulf_test

import (
	"math"
	"math/big"
	"math/rand"
	"slices"
	"testing"

	"sapwood/api"
	"sapwood/limb"
	"sapwood/mulf"
)

// modulus: 2^255 - 19.
func modulus() *big.Int {
	m := big.NewInt(1)
	return m.Lsh(m, 255).Sub(m, big.NewInt(19))
}

// number: what an element stands for, reckoned by the document's words alone.
func number(e limb.Elem) *big.Int {
	n := new(big.Int)
	for i, l := range e {
		x := new(big.Int).SetUint64(l)
		n.Add(n, x.Lsh(x, uint(51*i)))
	}
	return n.Mod(n, modulus())
}

// product: of numbers.
func product(l ...*big.Int) *big.Int {
	n := big.NewInt(1)
	for _, x := range l {
		n.Mul(n, x).Mod(n, modulus())
	}
	return n
}

// check: an answer has no limb above 2^52, and stands for the wanted number.
func check(t *testing.T, what string, got limb.Elem, wanted *big.Int) {
	t.Helper()
	if !got.Tight() || slices.Max(got[:]) > 1<<52 {
		t.Errorf("%s: %v isn't tight", what, got)
	}
	if n := number(got); n.Cmp(new(big.Int).Mod(wanted, modulus())) != 0 {
		t.Errorf("%s: %v stands for %v, wanted %v", what, got, n, wanted)
	}
}

// full: an element whose limbs are all one.
func full(l uint64) limb.Elem { return limb.Elem{l, l, l, l, l} }

// edges: limbs about which carries begin or end.
func edges() []uint64 {
	return []uint64{0, 1, 18, 19, 20, 1<<51 - 20, 1<<51 - 19, 1<<51 - 18, 1<<51 - 1, 1 << 51, 1<<51 + 1, 1<<52 - 1, 1 << 52, 1<<52 + 1, 1 << 53, 1<<54 - 1, 1 << 54}
}

// edgeElem: some loose element of edges.
func edgeElem(random *rand.Rand) limb.Elem {
	var e limb.Elem
	l := edges()
	for i := range e {
		e[i] = l[random.Intn(len(l))]
	}
	return e
}

// looseElem: some loose element.
func looseElem(random *rand.Rand) limb.Elem {
	var e limb.Elem
	for i := range e {
		e[i] = random.Uint64() % (1<<54 + 1)
	}
	return e
}

// about: the modulus, so many times, and a few more or less, limb by limb.
func about(times uint64, more int) limb.Elem {
	e := full(times * (1<<51 - 1))
	e[0] = times*(1<<51-19) + uint64(more)
	return e
}

// stands: elements at the bounds, in each place alone and in all at once, and those about the modulus and its doubles.
func stands() []limb.Elem {
	l := []limb.Elem{{}, {1}, {2}, {19}, {1<<51 - 1}, about(1, -20), about(1, -19), about(1, 18), about(1, 19)}
	for times := range uint64(8) {
		for more := -2; more <= 2; more++ {
			if times > 0 || more >= 0 {
				l = append(l, about(times, more))
			}
		}
	}
	for _, bound := range []uint64{1, 1<<51 - 1, 1 << 51, 1<<52 - 1, 1 << 52, 1<<54 - 1, 1 << 54} {
		l = append(l, full(bound))
		for i := range 5 {
			alone, all := limb.Elem{}, full(bound)
			alone[i], all[i] = bound, 0
			l = append(l, alone, all)
		}
	}
	return l
}

// checkProducts: all that may be said of two loose elements.
func checkProducts(t *testing.T, a, b limb.Elem) {
	t.Helper()
	x, y := number(a), number(b)
	wanted := product(x, y)
	check(t, "Mul", mulf.Mul(a, b), wanted)
	check(t, "Mul, the other way", mulf.Mul(b, a), wanted)
	check(t, "Product", mulf.Product(a, b), wanted)
	check(t, "Square", mulf.Square(a), product(x, x))
	check(t, "Square of the other", mulf.Square(b), product(y, y))
	if t.Failed() {
		t.Fatalf("of %v and %v", a, b)
	}
}

// P3.1: products of what stands at the bounds, each with each.
func TestProductsAtTheBounds(t *testing.T) {
	for _, a := range stands() {
		for _, b := range stands() {
			checkProducts(t, a, b)
		}
	}
}

// P3.1: a limb of one, and a limb of the other, by each place: 2^51 and its powers, past 2^255 19 times.
func TestEachPlace(t *testing.T) {
	for i := range 5 {
		for k := range 5 {
			for _, l := range edges() {
				for _, m := range edges() {
					var a, b limb.Elem
					a[i], b[k] = l, m
					n := product(new(big.Int).SetUint64(l), new(big.Int).SetUint64(m))
					check(t, "Mul of a limb each", mulf.Mul(a, b), n.Lsh(n, uint(51*(i+k))))
				}
			}
		}
	}
}

// P3.1: products of whatever is loose.
func TestProductsOfMany(t *testing.T) {
	random := rand.New(rand.NewSource(1))
	for range 20000 {
		checkProducts(t, edgeElem(random), edgeElem(random))
		checkProducts(t, looseElem(random), edgeElem(random))
		checkProducts(t, looseElem(random), looseElem(random))
	}
}

// P3.1: by hand: twice 2^254, 0, 1, and what is the modulus less 1 (whose square is 1).
func TestByHand(t *testing.T) {
	half := limb.Of(api.Key{31: 64})
	less := limb.Sub(limb.Small(0), limb.Small(1))
	for what, keys := range map[string][2]api.Key{
		"2 and 2^254":             {mulf.Mul(limb.Small(2), half).Key(), {19}},
		"2^254, Times 2":          {mulf.Times(half, 2).Key(), {19}},
		"2^254, Times 4":          {mulf.Times(half, 4).Key(), {38}},
		"2^254 and 0":             {mulf.Mul(half, limb.Elem{}).Key(), {}},
		"1 and 2^254":             {mulf.Mul(limb.Small(1), half).Key(), {31: 64}},
		"-1 and -1":               {mulf.Mul(less, less).Key(), {1}},
		"the square of -1":        {mulf.Square(less).Key(), {1}},
		"-1 and the modulus":      {mulf.Mul(less, about(1, 0)).Key(), {}},
		"the modulus and 1, both": {mulf.Square(about(1, 1)).Key(), {1}},
		"7 and the modulus and 6": {mulf.Mul(limb.Small(7), about(1, 6)).Key(), {42}},
		"the square of 300":       {mulf.Square(limb.Small(300)).Key(), {144, 95, 1}},
		"the square of 2^32 - 1":  {mulf.Square(limb.Small(math.MaxUint32)).Key(), {1, 0, 0, 0, 254, 255, 255, 255}},
		"2^32 - 1, so many times": {mulf.Times(limb.Small(math.MaxUint32), math.MaxUint32).Key(), {1, 0, 0, 0, 254, 255, 255, 255}},
	} {
		if keys[0] != keys[1] {
			t.Errorf("%s: the key is %x, wanted %x", what, keys[0], keys[1])
		}
	}
}

// P3.1: so many times, from none to the most.
func TestTimes(t *testing.T) {
	random := rand.New(rand.NewSource(2))
	elems := stands()
	for range 300 {
		elems = append(elems, edgeElem(random), looseElem(random))
	}
	for _, e := range elems {
		for _, n := range []uint32{0, 1, 2, 3, 9, 19, 121665, 1<<16 - 1, 1 << 16, 1<<31 - 1, 1 << 31, 1<<32 - 19, math.MaxUint32 - 1, math.MaxUint32, random.Uint32()} {
			got := mulf.Times(e, n)
			check(t, "Times", got, product(number(e), big.NewInt(int64(n))))
			if got.Key() != mulf.Mul(e, limb.Small(n)).Key() {
				t.Errorf("Times of %v, %d isn't Mul of that and Small", e, n)
			}
		}
	}
}

// P3.1: products of none, of one that isn't tight, and of many.
func TestProduct(t *testing.T) {
	one := big.NewInt(1)
	check(t, "the product of none", mulf.Product(), one)
	check(t, "the product of an empty list", mulf.Product([]limb.Elem{}...), one)
	check(t, "the product of no list", mulf.Product(nil...), one)
	for _, e := range stands() {
		check(t, "the product of one", mulf.Product(e), number(e))
		check(t, "the product of one and 1", mulf.Product(e, limb.Small(1)), number(e))
		check(t, "the product of one and 0", mulf.Product(e, limb.Elem{}, e), new(big.Int))
		check(t, "the product of three", mulf.Product(e, full(1<<54), e), product(number(e), number(full(1<<54)), number(e)))
	}
	random := rand.New(rand.NewSource(3))
	for _, n := range []int{2, 3, 4, 5, 17, 256, 1000, 10000} {
		l, most, wanted := make([]limb.Elem, n), make([]limb.Elem, n), one
		for i := range l {
			l[i], most[i] = looseElem(random), full(1<<54)
			wanted = product(wanted, number(l[i]))
		}
		check(t, "the product of many", mulf.Product(l...), wanted)
		check(t, "the product of many at the bound", mulf.Product(most...), new(big.Int).Exp(number(most[0]), big.NewInt(int64(n)), modulus()))
		l[n-1] = about(3, 0)
		check(t, "the product of many and 0", mulf.Product(l...), new(big.Int))
	}
}

// same: two answers stand for one number.
func same(t *testing.T, what string, a, b limb.Elem) {
	t.Helper()
	if a.Key() != b.Key() || number(a).Cmp(number(b)) != 0 {
		t.Fatalf("%s: %v and %v stand for two numbers", what, a, b)
	}
}

// P3.2: products hang on no order.
func TestNoOrder(t *testing.T) {
	random := rand.New(rand.NewSource(4))
	for range 2000 {
		a, b, c := edgeElem(random), looseElem(random), edgeElem(random)
		n := random.Uint32()
		whole := mulf.Product(a, b, c)
		same(t, "two, the other way", mulf.Mul(a, b), mulf.Mul(b, a))
		same(t, "the first two ahead", mulf.Mul(mulf.Mul(a, b), c), whole)
		same(t, "the last two ahead", mulf.Mul(a, mulf.Mul(b, c)), whole)
		same(t, "others ahead", mulf.Mul(b, mulf.Mul(c, a)), whole)
		same(t, "three, the other way", mulf.Product(c, b, a), whole)
		same(t, "so many times, ahead or behind", mulf.Times(mulf.Mul(a, b), n), mulf.Mul(a, mulf.Times(b, n)))
		same(t, "squares", mulf.Square(mulf.Mul(a, b)), mulf.Mul(mulf.Square(a), mulf.Square(b)))
		l := []limb.Elem{a, b, c, looseElem(random), edgeElem(random), {2}, full(1 << 54)}
		mixed := slices.Clone(l)
		random.Shuffle(len(mixed), func(i, k int) { mixed[i], mixed[k] = mixed[k], mixed[i] })
		same(t, "many, shuffled", mulf.Product(l...), mulf.Product(mixed...))
	}
}

// P3.2: the product of a sum is the sum of the products.
func TestProductOfASum(t *testing.T) {
	random := rand.New(rand.NewSource(5))
	for range 2000 {
		a, b, c := edgeElem(random), looseElem(random), edgeElem(random)
		n := random.Uint32() >> 1
		same(t, "of a sum", mulf.Mul(a, limb.Add(b, c)), limb.Add(mulf.Mul(a, b), mulf.Mul(a, c)))
		same(t, "of a sum, the other way", mulf.Mul(limb.Add(b, c), a), limb.Add(mulf.Mul(b, a), mulf.Mul(c, a)))
		same(t, "of a difference", mulf.Mul(a, limb.Sub(b, c)), limb.Sub(mulf.Mul(a, b), mulf.Mul(a, c)))
		same(t, "of a sum of many", mulf.Mul(a, limb.Sum(b, c, a, b)), limb.Sum(mulf.Mul(a, b), mulf.Mul(a, c), mulf.Square(a), mulf.Mul(b, a)))
		same(t, "a sum, so many times", mulf.Times(limb.Add(a, b), n), limb.Add(mulf.Times(a, n), mulf.Times(b, n)))
		same(t, "so many times, and once more", mulf.Times(a, n+1), limb.Add(mulf.Times(a, n), a))
		same(t, "a square of a sum", mulf.Square(limb.Add(a, b)), limb.Sum(mulf.Square(a), mulf.Times(mulf.Mul(a, b), 2), mulf.Square(b)))
	}
}

// P3.1, P3.2: whatever stands for a number, the product is the same number.
func TestManyStandForOne(t *testing.T) {
	random := rand.New(rand.NewSource(6))
	for more := range 20 {
		other := looseElem(random)
		small := limb.Small(uint32(more))
		for times := range uint64(8) {
			e := about(times, more)
			same(t, "Mul", mulf.Mul(e, other), mulf.Mul(small, other))
			same(t, "Square", mulf.Square(e), mulf.Square(small))
			same(t, "Times", mulf.Times(e, math.MaxUint32), mulf.Times(small, math.MaxUint32))
			same(t, "Product", mulf.Product(e), small)
		}
	}
}

// Rules: what is handed in is left as it was, spare room included; the same call answers the same again.
func TestNothingIsKept(t *testing.T) {
	wanted := []limb.Elem{full(1 << 54), {1, 2}, {2}, full(77)}
	room := slices.Clone(wanted)
	first := mulf.Product(room[:2]...)
	if !slices.Equal(room, wanted) {
		t.Errorf("Product changed what it was handed: %v", room)
	}
	room[0] = limb.Elem{}
	if mulf.Product(wanted[:2]...) != first || mulf.Mul(wanted[0], wanted[3]) != mulf.Mul(wanted[0], wanted[3]) || wanted[0] != full(1<<54) {
		t.Error("a call changed something")
	}
}

// P1: no call panics at loose elements.
func TestNoPanic(t *testing.T) {
	for _, a := range stands() {
		mulf.Square(a)
		mulf.Times(a, 0)
		mulf.Times(a, math.MaxUint32)
		mulf.Product(a, a, a)
		mulf.Mul(a, mulf.Mul(a, a))
	}
	mulf.Product()
}
