package path_test

import (
	"crypto/ecdh"
	"encoding/hex"
	"math"
	"math/rand"
	"slices"
	"testing"

	"sapwood/api"
	"sapwood/build"
	"sapwood/node"
	"sapwood/path"
	"sapwood/shape"
)

// anyKeys: some keys.
func anyKeys(random *rand.Rand, n int) []api.Key {
	keys := make([]api.Key, n)
	for i := range keys {
		random.Read(keys[i][:])
	}
	return keys
}

// filled: a key whose bytes are all one.
func filled(b byte) api.Key {
	var k api.Key
	for i := range k {
		k[i] = b
	}
	return k
}

// idle: public keys that share 0 with whatever secret, some of them written otherwise.
func idle(t *testing.T) []api.Key {
	t.Helper()
	list := []api.Key{{}, {1}, {31: 128}}
	for _, text := range []string{
		"e0eb7a7c3b41b8ae1656e3faf19fc46ada098deb9c32b1fd866205165f49b800",
		"5f9c95bca3508c24b1d0b1559c83ef5b04445cc4581c8e86d8224eddd09f1157",
		"ecffffffffffffffffffffffffffffffffffffffffffffffffffffffffffff7f",
		"edffffffffffffffffffffffffffffffffffffffffffffffffffffffffffffff",
	} {
		b, err := hex.DecodeString(text)
		if err != nil || len(b) != 32 {
			t.Fatalf("%s: the test itself is wrong", text)
		}
		list = append(list, api.Key(b))
	}
	return list
}

// libraryBase: a secret's public key, by the library's X25519.
func libraryBase(t *testing.T, secret api.Key) api.Key {
	t.Helper()
	s, err := ecdh.X25519().NewPrivateKey(secret[:])
	if err != nil {
		t.Fatal(err)
	}
	return api.Key(s.PublicKey().Bytes())
}

// tree: of these leaves, which there must be.
func tree(t *testing.T, leaves ...api.Key) build.Tree {
	t.Helper()
	x, ok := build.Make(leaves...)
	if !ok {
		t.Fatal("there is no such tree: the test itself is wrong")
	}
	return x
}

// made: the path of these, which there must be.
func made(t *testing.T, n, leaf int, secret api.Key, copath ...api.Key) path.Path {
	t.Helper()
	p, ok := path.Make(n, leaf, secret, copath...)
	if !ok {
		t.Fatalf("Make of %d and %d is false", n, leaf)
	}
	return p
}

// members: a path of each leaf.
func members(t *testing.T, leaves ...api.Key) []path.Path {
	t.Helper()
	x := tree(t, leaves...)
	var all []path.Path
	for leaf, secret := range leaves {
		all = append(all, made(t, len(leaves), leaf, secret, x.Copath(leaf)...))
	}
	return all
}

// renewed: a path with another secret, which there must be.
func renewed(t *testing.T, p path.Path, secret api.Key) path.Path {
	t.Helper()
	q, ok := p.Renew(secret)
	if !ok {
		t.Fatalf("Renew of %d and %d is false", p.N(), p.Leaf())
	}
	return q
}

// taken: a path behind another one's renewal, which there must be.
func taken(t *testing.T, p path.Path, from int, publics ...api.Key) path.Path {
	t.Helper()
	q, ok := p.Take(from, publics...)
	if !ok {
		t.Fatalf("Take of %d and %d from %d is false", p.N(), p.Leaf(), from)
	}
	return q
}

// checkPath: a path has these.
func checkPath(t *testing.T, p path.Path, n, leaf int, secrets, copath []api.Key) {
	t.Helper()
	if p.N() != n || p.Leaf() != leaf || p.Root() != secrets[len(secrets)-1] {
		t.Errorf("N is %d, Leaf %d, Root %x, wanted %d, %d, %x", p.N(), p.Leaf(), p.Root(), n, leaf, secrets[len(secrets)-1])
	}
	if got := p.Secrets(); !slices.Equal(got, secrets) {
		t.Errorf("of %d and %d: Secrets is %x, wanted %x", n, leaf, got, secrets)
	}
	if got := p.Copath(); !slices.Equal(got, copath) {
		t.Errorf("of %d and %d: Copath is %x, wanted %x", n, leaf, got, copath)
	}
	var publics []api.Key
	for _, s := range secrets[:len(secrets)-1] {
		publics = append(publics, libraryBase(t, s))
	}
	if got := p.Publics(); !slices.Equal(got, publics) {
		t.Errorf("of %d and %d: Publics is %x, wanted %x", n, leaf, got, publics)
	}
}

// checkOf: a path is what its leaf knows of a tree.
func checkOf(t *testing.T, p path.Path, x build.Tree, leaf int) {
	t.Helper()
	var secrets []api.Key
	for _, v := range shape.Path(x.N(), leaf) {
		pair, ok := x.Pair(v)
		if !ok {
			t.Fatalf("%v: the test itself is wrong", v)
		}
		secrets = append(secrets, pair.Secret)
	}
	checkPath(t, p, x.N(), leaf, secrets, x.Copath(leaf))
}

// checkSame: two paths are the same.
func checkSame(t *testing.T, p, wanted path.Path) {
	t.Helper()
	checkPath(t, p, wanted.N(), wanted.Leaf(), wanted.Secrets(), wanted.Copath())
}

// checkNothing: it is the zero path, beside a false.
func checkNothing(t *testing.T, what string, p path.Path, ok bool) {
	t.Helper()
	if ok || p.N() != 0 || p.Leaf() != 0 || p.Root() != (api.Key{}) || len(p.Secrets()) != 0 || len(p.Copath()) != 0 || len(p.Publics()) != 0 {
		t.Errorf("%s: there is a path of %d and %d, %v", what, p.N(), p.Leaf(), ok)
	}
}

// noLeaves: numbers that are no leaf's in a tree of n leaves.
func noLeaves(n int) []int {
	return []int{math.MinInt, -n, -1, n, n + 1, 2*n - 1, 1024, 1025, math.MaxInt}
}

// P14.1: each leaf's path of small trees and greater ones is what the tree has.
func TestMake(t *testing.T) {
	random := rand.New(rand.NewSource(1))
	for _, n := range []int{2, 3, 4, 5, 6, 7, 8, 9, 16, 17, 33} {
		leaves := anyKeys(random, n)
		x := tree(t, leaves...)
		for leaf, secret := range leaves {
			checkOf(t, made(t, n, leaf, secret, x.Copath(leaf)...), x, leaf)
		}
	}
}

// P14.1: the copath may be of any keys; each secret but the first is Up of the one ahead, and that order plays a part.
func TestAnyKeys(t *testing.T) {
	random := rand.New(rand.NewSource(2))
	for _, n := range []int{2, 3, 5, 9, 100, 1023, 1024} {
		for _, leaf := range []int{0, 1, n / 2, n - 1} {
			for _, secret := range append(anyKeys(random, 1), api.Key{}, filled(255)) {
				copath := anyKeys(random, shape.Depth(n, leaf))
				secrets := []api.Key{secret}
				for i, other := range copath {
					up, ok := node.Up(secrets[i], other)
					if !ok {
						t.Fatal("the test itself is wrong")
					}
					secrets = append(secrets, up)
				}
				p := made(t, n, leaf, secret, copath...)
				checkPath(t, p, n, leaf, secrets, copath)
				slices.Reverse(copath)
				if q := made(t, n, leaf, secret, copath...); len(copath) > 1 && q.Root() == p.Root() {
					t.Errorf("of %d and %d: the copath's order plays no part", n, leaf)
				}
			}
		}
	}
}

// P14.1: n is from 2 to 1024, whatever the leaf and the number of keys are.
func TestNoTree(t *testing.T) {
	keys := anyKeys(rand.New(rand.NewSource(3)), 12)
	for _, n := range []int{math.MinInt, -1024, -2, -1, 0, 1, 1025, 1026, 2048, math.MaxInt} {
		for _, leaf := range append(noLeaves(2), 0, 1, 2, n-1) {
			for count := range len(keys) + 1 {
				p, ok := path.Make(n, leaf, filled(5), keys[:count]...)
				checkNothing(t, "Make", p, ok)
			}
		}
	}
}

// P14.1: the leaf is from 0 to n less 1.
func TestNoLeaf(t *testing.T) {
	keys := anyKeys(rand.New(rand.NewSource(4)), 12)
	for _, n := range []int{2, 3, 4, 5, 8, 1023, 1024} {
		for _, leaf := range noLeaves(n) {
			for count := range len(keys) + 1 {
				p, ok := path.Make(n, leaf, filled(5), keys[:count]...)
				checkNothing(t, "Make", p, ok)
			}
		}
	}
}

// P14.1: the copath has as many keys as Depth, no other number.
func TestOtherNumber(t *testing.T) {
	keys := anyKeys(rand.New(rand.NewSource(5)), 22)
	for _, n := range []int{2, 3, 4, 5, 8, 9, 513, 1023, 1024} {
		for _, leaf := range []int{0, 1, n / 2, n - 1} {
			for count := range len(keys) + 1 {
				p, ok := path.Make(n, leaf, filled(5), keys[:count]...)
				if count != shape.Depth(n, leaf) {
					checkNothing(t, "Make", p, ok)
				} else if !ok {
					t.Errorf("Make of %d, %d and %d keys is false", n, leaf, count)
				}
			}
		}
	}
}

// P14.1: false, whichever Up is false, also the last one.
func TestMakeOfNothing(t *testing.T) {
	random := rand.New(rand.NewSource(6))
	for _, zero := range idle(t) {
		for _, n := range []int{2, 3, 8, 1024} {
			copath := anyKeys(random, shape.Depth(n, 0))
			for i, key := range copath {
				copath[i] = zero
				p, ok := path.Make(n, 0, filled(7), copath...)
				checkNothing(t, "Make", p, ok)
				copath[i] = key
			}
			made(t, n, 0, filled(7), copath...)
		}
	}
}

// P14.1, P14.2: of the zero path zero, none, false.
func TestZeroPath(t *testing.T) {
	var zero path.Path
	checkNothing(t, "the zero path", zero, false)
	p, ok := zero.Renew(filled(8))
	checkNothing(t, "Renew of the zero path", p, ok)
	keys := anyKeys(rand.New(rand.NewSource(7)), 11)
	for _, from := range append(noLeaves(2), 0, 1, 2) {
		for count := range len(keys) + 1 {
			p, ok := zero.Take(from, keys[:count]...)
			checkNothing(t, "Take of the zero path", p, ok)
		}
	}
}

// P14.2: Renew is Make with another secret; the path stays as it was, and so does what it is of.
func TestRenew(t *testing.T) {
	random := rand.New(rand.NewSource(8))
	for _, n := range []int{2, 3, 4, 5, 7, 8, 9, 17} {
		leaves := anyKeys(random, n)
		x := tree(t, leaves...)
		for leaf, p := range members(t, leaves...) {
			for _, secret := range append(anyKeys(random, 1), api.Key{}, filled(255), leaves[leaf]) {
				y, ok := x.Replace(leaf, secret)
				if !ok {
					t.Fatal("the test itself is wrong")
				}
				checkOf(t, renewed(t, p, secret), y, leaf)
			}
			checkOf(t, p, x, leaf)
		}
	}
}

// P14.2: Take from each leaf by each other one is what that one knows of the tree with that leaf's secret; the path stays as it was.
func TestTake(t *testing.T) {
	random := rand.New(rand.NewSource(9))
	for _, n := range []int{2, 3, 4, 5, 6, 7, 8, 9} {
		leaves := anyKeys(random, n)
		x, all := tree(t, leaves...), members(t, leaves...)
		for from := range n {
			secret := anyKeys(random, 1)[0]
			y, _ := x.Replace(from, secret)
			publics := renewed(t, all[from], secret).Publics()
			for leaf, p := range all {
				if leaf != from {
					checkOf(t, taken(t, p, from, publics...), y, leaf)
					checkOf(t, p, x, leaf)
				}
			}
		}
	}
}

// P14.2: of the public keys just the one of the node in the copath plays a part: there it stands, whatever the others are.
func TestTakeOfOneKey(t *testing.T) {
	random := rand.New(rand.NewSource(10))
	for _, n := range []int{2, 3, 5, 8, 11} {
		leaves := anyKeys(random, n)
		for leaf, p := range members(t, leaves...) {
			for from := range n {
				if from == leaf {
					continue
				}
				publics := anyKeys(random, shape.Depth(n, from))
				for i, v := range shape.Path(n, from)[:len(publics)] {
					wanted := p.Copath()
					place := slices.Index(shape.Copath(n, leaf), v)
					if place < 0 {
						continue
					}
					wanted[place] = publics[i]
					checkSame(t, taken(t, p, from, publics...), made(t, n, leaf, leaves[leaf], wanted...))
					alone := make([]api.Key, len(publics)) // beside it keys that share nothing
					alone[i] = publics[i]
					checkSame(t, taken(t, p, from, alone...), made(t, n, leaf, leaves[leaf], wanted...))
				}
			}
		}
	}
}

// P14.2: false, where from isn't another leaf, whatever the public keys are.
func TestTakeFromNobody(t *testing.T) {
	random := rand.New(rand.NewSource(11))
	for _, n := range []int{2, 3, 4, 5, 8} {
		keys := anyKeys(random, 11)
		for leaf, p := range members(t, anyKeys(random, n)...) {
			own, ok := p.Take(leaf, p.Publics()...)
			checkNothing(t, "Take of its own", own, ok)
			for _, from := range append(noLeaves(n), leaf) {
				for count := range len(keys) + 1 {
					got, ok := p.Take(from, keys[:count]...)
					checkNothing(t, "Take from nobody", got, ok)
				}
			}
		}
	}
}

// P14.2: false, where there are another number of public keys than from's Depth, also where it is this leaf's.
func TestTakeOfOtherNumber(t *testing.T) {
	random := rand.New(rand.NewSource(12))
	keys := anyKeys(random, 22)
	for _, n := range []int{2, 3, 5, 6, 9} {
		for leaf, p := range members(t, anyKeys(random, n)...) {
			for from := range n {
				for count := range len(keys) + 1 {
					got, ok := p.Take(from, keys[:count]...)
					if from == leaf || count != shape.Depth(n, from) {
						checkNothing(t, "Take", got, ok)
					} else if !ok {
						t.Errorf("Take of %d and %d from %d, of %d keys, is false", n, leaf, from, count)
					}
				}
			}
		}
	}
}

// P14.2: false, where the key shares nothing.
func TestTakeOfNothing(t *testing.T) {
	random := rand.New(rand.NewSource(13))
	all := members(t, anyKeys(random, 6)...)
	for _, zero := range idle(t) {
		for leaf, p := range all {
			for from := range all {
				if from == leaf {
					continue
				}
				publics := all[from].Publics()
				for i, v := range shape.Path(6, from)[:len(publics)] {
					key := publics[i]
					publics[i] = zero
					got, ok := p.Take(from, publics...)
					if slices.Contains(shape.Copath(6, leaf), v) {
						checkNothing(t, "Take", got, ok)
					} else if !ok {
						t.Errorf("Take of %d from %d is false by the key %d", leaf, from, i)
					}
					publics[i] = key
				}
				checkSame(t, taken(t, p, from, publics...), p)
			}
		}
	}
}

// P14.3: one renewal behind the other, by whomever: all have the same root, and another one each time.
func TestSameRoot(t *testing.T) {
	random := rand.New(rand.NewSource(14))
	for _, n := range []int{2, 3, 5, 8, 13} {
		leaves := anyKeys(random, n)
		all := members(t, leaves...)
		seen := map[api.Key]bool{all[0].Root(): true}
		for range 6 {
			from := random.Intn(n)
			leaves[from] = anyKeys(random, 1)[0]
			all[from] = renewed(t, all[from], leaves[from])
			for leaf, p := range all {
				if leaf != from {
					all[leaf] = taken(t, p, from, all[from].Publics()...)
				}
			}
			x := tree(t, leaves...)
			for leaf, p := range all {
				checkOf(t, p, x, leaf)
			}
			if seen[x.Root()] {
				t.Errorf("of %d leaves: the root %x was there", n, x.Root())
			}
			seen[x.Root()] = true
		}
	}
}

// P14.3: of the greatest tree, too.
func TestGreatest(t *testing.T) {
	leaves := anyKeys(rand.New(rand.NewSource(15)), 1024)
	x := tree(t, leaves...)
	all := map[int]path.Path{}
	for _, leaf := range []int{0, 1, 511, 512, 1022, 1023} {
		all[leaf] = made(t, 1024, leaf, leaves[leaf], x.Copath(leaf)...)
	}
	from := renewed(t, all[512], filled(2))
	y, _ := x.Replace(512, filled(2))
	for leaf, p := range all {
		if leaf != 512 {
			checkOf(t, taken(t, p, 512, from.Publics()...), y, leaf)
		}
	}
	checkOf(t, from, y, 512)
}

// The example: of two leaves Publics is one key, and Take of it puts it in the copath.
func TestTwoLeaves(t *testing.T) {
	all := members(t, api.Key{1}, api.Key{2})
	publics := renewed(t, all[0], api.Key{3}).Publics()
	if !slices.Equal(publics, []api.Key{libraryBase(t, api.Key{3})}) {
		t.Errorf("Publics is %x", publics)
	}
	if got := taken(t, all[1], 0, publics...).Copath(); !slices.Equal(got, publics) {
		t.Errorf("Copath is %x, wanted %x", got, publics)
	}
}

// Rules: what is handed in is neither changed nor kept, spare room included.
func TestNothingIsKept(t *testing.T) {
	random := rand.New(rand.NewSource(16))
	copath, publics := anyKeys(random, 6), anyKeys(random, 6)
	copathBefore, publicsBefore := slices.Clone(copath), slices.Clone(publics)
	p := made(t, 8, 3, filled(3), copath[:3]...)
	q := taken(t, p, 6, publics[:3]...)
	r := renewed(t, p, filled(4))
	if !slices.Equal(copath, copathBefore) || !slices.Equal(publics, publicsBefore) {
		t.Errorf("what was handed in was changed: %x, %x", copath, publics)
	}
	for i := range copath {
		copath[i], publics[i] = api.Key{}, api.Key{}
	}
	checkSame(t, p, made(t, 8, 3, filled(3), copathBefore[:3]...))
	checkSame(t, q, made(t, 8, 3, filled(3), copathBefore[0], copathBefore[1], publicsBefore[2]))
	checkSame(t, r, made(t, 8, 3, filled(4), copathBefore[:3]...))
}

// Rules: an answer is nobody else's memory, spare room included; paths that came of one another share nothing that can be seen.
func TestAnswersAreNew(t *testing.T) {
	random := rand.New(rand.NewSource(17))
	all := members(t, anyKeys(random, 7)...)
	p := all[2]
	q, r := renewed(t, p, filled(4)), taken(t, p, 5, all[5].Publics()...)
	for _, x := range []path.Path{p, q, r} {
		wanted := made(t, 7, 2, x.Secrets()[0], x.Copath()...)
		for i, call := range []func() []api.Key{x.Secrets, x.Copath, x.Publics} {
			first, second := call(), call()
			kept := slices.Clone(first)
			for j := range second {
				second[j] = api.Key{}
			}
			longer, last := append(first, api.Key{1}), append(second, api.Key{2})
			if !slices.Equal(first, kept) || longer[len(kept)] != (api.Key{1}) || last[len(kept)] != (api.Key{2}) {
				t.Errorf("call %d: two answers share their memory", i)
			}
		}
		checkSame(t, x, wanted)
	}
}
