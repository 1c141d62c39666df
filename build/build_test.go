package build_test

import (
	"crypto/ecdh"
	"crypto/hkdf"
	"crypto/sha256"
	"math"
	"math/rand"
	"slices"
	"testing"

	"sapwood/api"
	"sapwood/build"
	"sapwood/node"
	"sapwood/shape"
)

// anyKeys: some keys.
func anyKeys(random *rand.Rand, n int) []api.Key {
	keys := make([]api.Key, n)
	for i := range keys {
		random.Read(keys[i][:])
	}
	return keys
}

// filled: a key whose bytes are all one.
func filled(b byte) api.Key {
	var k api.Key
	for i := range k {
		k[i] = b
	}
	return k
}

// libraryPair: a secret and its public key, by the library's X25519.
func libraryPair(t *testing.T, secret api.Key) node.Pair {
	t.Helper()
	s, err := ecdh.X25519().NewPrivateKey(secret[:])
	if err != nil {
		t.Fatal(err)
	}
	return node.Pair{Secret: secret, Public: api.Key(s.PublicKey().Bytes())}
}

// libraryUp: the parent's secret, by the library's X25519 and HKDF.
func libraryUp(t *testing.T, secret, public api.Key) api.Key {
	t.Helper()
	s, err := ecdh.X25519().NewPrivateKey(secret[:])
	if err != nil {
		t.Fatal(err)
	}
	p, err := ecdh.X25519().NewPublicKey(public[:])
	if err != nil {
		t.Fatal(err)
	}
	shared, err := s.ECDH(p)
	if err != nil {
		t.Fatal(err)
	}
	parent, err := hkdf.Key(sha256.New, shared, []byte("sapwood node"), "", 32)
	if err != nil {
		t.Fatal(err)
	}
	return api.Key(parent)
}

// wantedPairs: those of some leaves' tree, in preorder, by the document's words.
func wantedPairs(t *testing.T, leaves []api.Key) []node.Pair {
	t.Helper()
	if len(leaves) == 1 {
		return []node.Pair{libraryPair(t, leaves[0])}
	}
	half := 1
	for 2*half < len(leaves) {
		half *= 2
	}
	left, right := wantedPairs(t, leaves[:half]), wantedPairs(t, leaves[half:])
	root := libraryPair(t, libraryUp(t, left[0].Secret, right[0].Public))
	return slices.Concat([]node.Pair{root}, left, right)
}

// publicsOf: the public keys of pairs.
func publicsOf(pairs []node.Pair) []api.Key {
	var keys []api.Key
	for _, p := range pairs {
		keys = append(keys, p.Public)
	}
	return keys
}

// made: the tree of these leaves, which there must be.
func made(t *testing.T, leaves ...api.Key) build.Tree {
	t.Helper()
	tree, ok := build.Make(leaves...)
	if !ok {
		t.Fatalf("Make of %d leaves is false", len(leaves))
	}
	return tree
}

// replaced: the tree with another secret, which there must be.
func replaced(t *testing.T, tree build.Tree, leaf int, secret api.Key) build.Tree {
	t.Helper()
	other, ok := tree.Replace(leaf, secret)
	if !ok {
		t.Fatalf("of %d leaves: Replace of the leaf %d is false", tree.N(), leaf)
	}
	return other
}

// pairsOf: all pairs that a tree tells of its nodes, in preorder.
func pairsOf(t *testing.T, tree build.Tree) []node.Pair {
	t.Helper()
	var pairs []node.Pair
	for _, v := range shape.All(tree.N()) {
		pair, ok := tree.Pair(v)
		if !ok {
			t.Errorf("of %d leaves: Pair of %v is false", tree.N(), v)
		}
		pairs = append(pairs, pair)
	}
	return pairs
}

// checkTree: a tree tells these pairs, in preorder, by whatever it is asked.
func checkTree(t *testing.T, tree build.Tree, wanted []node.Pair) {
	t.Helper()
	n := (len(wanted) + 1) / 2
	if tree.N() != n || tree.Root() != wanted[0].Secret {
		t.Errorf("N is %d, Root %x, wanted %d, %x", tree.N(), tree.Root(), n, wanted[0].Secret)
	}
	if got := pairsOf(t, tree); !slices.Equal(got, wanted) {
		t.Errorf("of %d leaves: the pairs are %x, wanted %x", n, got, wanted)
	}
	if got := tree.Publics(); !slices.Equal(got, publicsOf(wanted[1:])) {
		t.Errorf("of %d leaves: Publics is %x, wanted %x", n, got, publicsOf(wanted[1:]))
	}
	for leaf := range n {
		var copath []api.Key
		for _, v := range shape.Copath(n, leaf) {
			copath = append(copath, wanted[slices.Index(shape.All(n), v)].Public)
		}
		if got := tree.Copath(leaf); !slices.Equal(got, copath) {
			t.Errorf("of %d leaves: Copath of %d is %x, wanted %x", n, leaf, got, copath)
		}
	}
}

// checkNothing: it is the zero tree, beside a false.
func checkNothing(t *testing.T, what string, tree build.Tree, ok bool) {
	t.Helper()
	if ok || tree.N() != 0 || tree.Root() != (api.Key{}) || len(tree.Publics()) != 0 || len(tree.Copath(0)) != 0 {
		t.Errorf("%s: there is a tree of %d leaves, %v", what, tree.N(), ok)
	}
	if pair, ok := tree.Pair(shape.Node{Size: 1}); ok || pair != (node.Pair{}) {
		t.Errorf("%s: it has a pair, %x", what, pair)
	}
}

// noLeaves: numbers that are no leaf's in a tree of n leaves.
func noLeaves(n int) []int {
	return []int{math.MinInt, -n, -1, n, n + 1, 2*n - 1, 1024, 1025, math.MaxInt}
}

// P13.1, P13.2: trees of few leaves and of many, held against the library; each node's pair is right.
func TestMake(t *testing.T) {
	random := rand.New(rand.NewSource(1))
	for _, n := range []int{2, 3, 4, 5, 6, 7, 8, 9, 10, 15, 16, 17, 31, 33, 63, 100} {
		leaves := anyKeys(random, n)
		tree := made(t, leaves...)
		checkTree(t, tree, wantedPairs(t, leaves))
		for i, secret := range leaves {
			if pair, ok := tree.Pair(shape.Node{From: i, Size: 1}); !ok || pair.Secret != secret || !pair.Right() {
				t.Errorf("of %d leaves: Pair of the leaf %d is %x, %v", n, i, pair, ok)
			}
		}
	}
}

// P13.1: whatever the secrets are, also all of them the same one, there is a tree.
func TestAnySecrets(t *testing.T) {
	odd := []api.Key{{}, {1}, {7}, {8}, {9}, {31: 64}, {31: 128}, filled(255), filled(0x55)}
	for _, a := range odd {
		for _, b := range odd {
			checkTree(t, made(t, a, b), wantedPairs(t, []api.Key{a, b}))
		}
		checkTree(t, made(t, a, a, a, a, a), wantedPairs(t, []api.Key{a, a, a, a, a}))
	}
	checkTree(t, made(t, odd...), wantedPairs(t, odd))
}

// P13.1: the order of the leaves plays a part, but between the two of one parent none but in their places.
func TestOrder(t *testing.T) {
	leaves := anyKeys(rand.New(rand.NewSource(2)), 5)
	tree := made(t, leaves...)
	sisters := made(t, leaves[1], leaves[0], leaves[2], leaves[3], leaves[4])
	others := made(t, leaves[0], leaves[2], leaves[1], leaves[3], leaves[4])
	if tree.Root() != sisters.Root() || tree.Root() == others.Root() || slices.Equal(tree.Publics(), sisters.Publics()) {
		t.Errorf("the roots are %x, %x and %x", tree.Root(), sisters.Root(), others.Root())
	}
}

// P13.1: from 2 to 1024 leaves, and no other number.
func TestBounds(t *testing.T) {
	leaves := anyKeys(rand.New(rand.NewSource(3)), 2049)
	for _, n := range []int{0, 1, 1025, 1026, 2047, 2048, 2049} {
		tree, ok := build.Make(leaves[:n]...)
		checkNothing(t, "Make", tree, ok)
	}
	tree, ok := build.Make(nil...)
	checkNothing(t, "Make of nil", tree, ok)
	for _, n := range []int{2, 1023, 1024} {
		if tree := made(t, leaves[:n]...); tree.N() != n || len(tree.Publics()) != 2*n-2 {
			t.Errorf("of %d leaves there are %d, and %d public keys", n, tree.N(), len(tree.Publics()))
		}
	}
}

// P13.1, P13.2: the greatest tree, held against the library, also with another leaf.
func TestGreatest(t *testing.T) {
	leaves := anyKeys(rand.New(rand.NewSource(4)), 1024)
	tree := made(t, leaves...)
	if got := pairsOf(t, tree); !slices.Equal(got, wantedPairs(t, leaves)) {
		t.Error("the pairs of 1024 leaves are others")
	}
	leaves[1023] = filled(1)
	if got := pairsOf(t, replaced(t, tree, 1023, filled(1))); !slices.Equal(got, wantedPairs(t, leaves)) {
		t.Error("the pairs of 1024 leaves are others, the last one replaced")
	}
	if tree.Copath(1023)[9] != tree.Publics()[0] || len(tree.Copath(0)) != 10 || len(tree.Copath(1024)) != 0 {
		t.Error("of 1024 leaves: the copaths are others")
	}
}

// P13.2: Pair is of the tree's nodes alone.
func TestNoPair(t *testing.T) {
	for n := 2; n <= 9; n++ {
		tree := made(t, anyKeys(rand.New(rand.NewSource(5)), n)...)
		all := shape.All(n)
		for from := -2; from <= n+1; from++ {
			for size := -1; size <= n+1; size++ {
				v := shape.Node{From: from, Size: size}
				pair, ok := tree.Pair(v)
				if is := slices.Contains(all, v); ok != is || !is && pair != (node.Pair{}) {
					t.Errorf("of %d leaves: Pair of %v is %x, %v", n, v, pair, ok)
				}
			}
		}
		far := []int{math.MinInt, 0, 1, 1024, math.MaxInt}
		for _, from := range far {
			for _, size := range far {
				v := shape.Node{From: from, Size: size}
				if pair, ok := tree.Pair(v); ok != slices.Contains(all, v) || !ok && pair != (node.Pair{}) {
					t.Errorf("of %d leaves: Pair of %v is %x, %v", n, v, pair, ok)
				}
			}
		}
	}
}

// P13.2: Replace of each leaf is Make with that secret; the tree stays as it was.
func TestReplace(t *testing.T) {
	random := rand.New(rand.NewSource(6))
	for _, n := range []int{2, 3, 4, 5, 6, 7, 8, 9, 17} {
		leaves := anyKeys(random, n)
		tree, before := made(t, leaves...), wantedPairs(t, leaves)
		for leaf := range n {
			for _, secret := range append(anyKeys(random, 1), api.Key{}, filled(255), leaves[leaf], leaves[(leaf+1)%n]) {
				others := slices.Clone(leaves)
				others[leaf] = secret
				checkTree(t, replaced(t, tree, leaf, secret), wantedPairs(t, others))
			}
		}
		checkTree(t, tree, before)
	}
}

// P13.2: Replace of a tree that came of Replace, leaf by leaf, till no secret is left of the first ones.
func TestReplaceAll(t *testing.T) {
	random := rand.New(rand.NewSource(7))
	for _, n := range []int{2, 3, 7, 12} {
		leaves := anyKeys(random, n)
		tree := made(t, leaves...)
		for _, leaf := range random.Perm(n) {
			leaves[leaf] = anyKeys(random, 1)[0]
			tree = replaced(t, tree, leaf, leaves[leaf])
			checkTree(t, tree, wantedPairs(t, leaves))
		}
	}
}

// P13.2: of no such leaf no copath, and no tree.
func TestNoLeaf(t *testing.T) {
	for _, n := range []int{2, 3, 4, 5, 8} {
		tree := made(t, anyKeys(rand.New(rand.NewSource(8)), n)...)
		for _, leaf := range noLeaves(n) {
			if got := tree.Copath(leaf); len(got) != 0 {
				t.Errorf("of %d leaves: Copath of %d is %x", n, leaf, got)
			}
			other, ok := tree.Replace(leaf, filled(3))
			checkNothing(t, "Replace", other, ok)
		}
	}
}

// P13.2: of the zero tree 0, zero, none, false.
func TestZeroTree(t *testing.T) {
	var zero build.Tree
	checkNothing(t, "the zero tree", zero, false)
	for _, leaf := range append(noLeaves(0), 0, 1) {
		if got := zero.Copath(leaf); len(got) != 0 {
			t.Errorf("of the zero tree: Copath of %d is %x", leaf, got)
		}
		other, ok := zero.Replace(leaf, filled(3))
		checkNothing(t, "Replace of the zero tree", other, ok)
		for _, size := range []int{-1, 0, 1, 2, math.MaxInt} {
			if pair, ok := zero.Pair(shape.Node{From: leaf, Size: size}); ok || pair != (node.Pair{}) {
				t.Errorf("of the zero tree: Pair of (%d, %d) is %x, %v", leaf, size, pair, ok)
			}
		}
	}
}

// P13.3: each leaf comes up to the root, by its copath, and to the secrets of its path between.
func TestEachLeafComesUp(t *testing.T) {
	random := rand.New(rand.NewSource(9))
	for _, n := range []int{2, 3, 4, 5, 6, 7, 8, 9, 16, 17, 31} {
		leaves := anyKeys(random, n)
		tree := made(t, leaves...)
		for leaf, secret := range leaves {
			secrets, ok := node.Climb(secret, tree.Copath(leaf)...)
			if !ok || secrets[len(secrets)-1] != tree.Root() {
				t.Errorf("of %d leaves: the leaf %d comes up to %x, wanted %x", n, leaf, secrets, tree.Root())
			}
			for i, v := range shape.Path(n, leaf) {
				if pair, ok := tree.Pair(v); !ok || pair.Secret != secrets[i] {
					t.Errorf("of %d leaves: the leaf %d comes up to %x at %v, wanted %x", n, leaf, secrets[i], v, pair.Secret)
				}
			}
		}
	}
}

// The example: of two leaves there are two public keys, and each one's copath is the other one's.
func TestTwoLeaves(t *testing.T) {
	a, b := node.Of(api.Key{1}), node.Of(api.Key{2})
	tree := made(t, a.Secret, b.Secret)
	if !slices.Equal(tree.Publics(), []api.Key{a.Public, b.Public}) {
		t.Errorf("Publics is %x", tree.Publics())
	}
	if !slices.Equal(tree.Copath(0), []api.Key{b.Public}) || !slices.Equal(tree.Copath(1), []api.Key{a.Public}) {
		t.Errorf("the copaths are %x and %x", tree.Copath(0), tree.Copath(1))
	}
}

// Rules: what is handed in is neither changed nor kept, spare room included.
func TestNothingIsKept(t *testing.T) {
	leaves := anyKeys(rand.New(rand.NewSource(10)), 8)
	before, wanted := slices.Clone(leaves), wantedPairs(t, leaves[:5])
	tree := made(t, leaves[:5]...)
	replaced(t, tree, 2, filled(9))
	if !slices.Equal(leaves, before) {
		t.Errorf("the leaves were changed: %x", leaves)
	}
	for i := range leaves {
		leaves[i] = api.Key{}
	}
	checkTree(t, tree, wanted)
}

// Rules: an answer is nobody else's memory, spare room included; trees that came of one another share nothing that can be seen.
func TestAnswersAreNew(t *testing.T) {
	leaves := anyKeys(rand.New(rand.NewSource(11)), 6)
	tree := made(t, leaves...)
	other := replaced(t, tree, 4, filled(4))
	wanted, otherWanted := wantedPairs(t, leaves), pairsOf(t, other)
	calls := []func() []api.Key{tree.Publics, other.Publics, func() []api.Key { return tree.Copath(3) }, func() []api.Key { return other.Copath(3) }}
	for i, call := range calls {
		first, second := call(), call()
		kept := slices.Clone(first)
		for j := range second {
			second[j] = api.Key{}
		}
		longer, last := append(first, api.Key{1}), append(second, api.Key{2})
		if !slices.Equal(first, kept) || longer[len(kept)] != (api.Key{1}) || last[len(kept)] != (api.Key{2}) {
			t.Errorf("call %d: two answers share their memory", i)
		}
	}
	checkTree(t, tree, wanted)
	checkTree(t, other, otherWanted)
}

// P1: no call panics, whatever it is asked.
func TestNoPanic(t *testing.T) {
	trees := []build.Tree{{}, made(t, api.Key{}, api.Key{}), made(t, make([]api.Key, 3)...)}
	for _, tree := range trees {
		for _, a := range append(noLeaves(2), 0, 1, 2, 3) {
			for _, b := range append(noLeaves(2), 0, 1, 2, 3) {
				tree.Pair(shape.Node{From: a, Size: b})
			}
			tree.Copath(a)
			tree.Replace(a, filled(byte(a)))
		}
	}
}
