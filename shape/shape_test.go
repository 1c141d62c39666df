package shape_test

import (
	"math"
	"slices"
	"testing"

	"sapwood/shape"
)

// node: one of some leaves.
func node(from, size int) shape.Node { return shape.Node{From: from, Size: size} }

// leftOf: the greatest power of 2 below a number, by trying one after the other.
func leftOf(n int) int {
	left := 0
	for power := 1; power < n && power > 0; power *= 2 {
		left = power
	}
	return left
}

// kids: of a node of more than one leaf, by the document's words.
func kids(v shape.Node) (shape.Node, shape.Node) {
	left := leftOf(v.Size)
	return node(v.From, left), node(v.From+left, v.Size-left)
}

// noTrees: numbers of leaves of which there is no tree.
func noTrees() []int {
	return []int{math.MinInt, math.MinInt + 1, -1025, -1024, -2, -1, 0, 1025, 1026, 2048, 4096, math.MaxInt32, math.MaxInt - 1, math.MaxInt}
}

// noLeaves: numbers that are no leaf's in a tree of n leaves.
func noLeaves(n int) []int {
	return []int{math.MinInt, math.MinInt + 1, -n, -2, -1, n, n + 1, 2 * n, 1024, 1025, math.MaxInt - 1, math.MaxInt}
}

// checkNodes: a call answered these nodes.
func checkNodes(t *testing.T, what string, n, leaf int, got []shape.Node, wanted ...shape.Node) {
	t.Helper()
	if !slices.Equal(got, wanted) {
		t.Errorf("%s of %d and %d is %v, wanted %v", what, n, leaf, got, wanted)
	}
}

// checkIndex: Index answers that.
func checkIndex(t *testing.T, n int, v shape.Node, wanted int) {
	t.Helper()
	if got := shape.Index(n, v); got != wanted {
		t.Errorf("Index of %d and %v is %d, wanted %d", n, v, got, wanted)
	}
}

// checkDepth: Depth answers that.
func checkDepth(t *testing.T, n, leaf, wanted int) {
	t.Helper()
	if got := shape.Depth(n, leaf); got != wanted {
		t.Errorf("Depth of %d and %d is %d, wanted %d", n, leaf, got, wanted)
	}
}

// checkHas: Has says that.
func checkHas(t *testing.T, v shape.Node, leaf int, wanted bool) {
	t.Helper()
	if got := v.Has(leaf); got != wanted {
		t.Errorf("Has of %v and %d is %v", v, leaf, got)
	}
}

// P11.1: Left of small numbers, of numbers about each power of 2, also above all trees, and 0 of an n below 2.
func TestLeft(t *testing.T) {
	check := func(n, wanted int) {
		t.Helper()
		if got := shape.Left(n); got != wanted {
			t.Errorf("Left of %d is %d, wanted %d", n, got, wanted)
		}
	}
	for n, wanted := range []int{0, 0, 1, 2, 2, 4, 4, 4, 4, 8} {
		check(n, wanted)
	}
	for n := range 5000 {
		check(n, leftOf(n))
		check(-n, 0)
	}
	check(1024, 512)
	check(1025, 1024)
	for power := 4; power > 0; power *= 2 {
		check(power-1, power/2)
		check(power, power/2)
		check(power+1, power)
	}
	check(math.MaxInt, math.MaxInt/2+1)
	check(math.MinInt, 0)
	check(math.MinInt+1, 0)
}

// P11.1: All of small trees, written out.
func TestAllWrittenOut(t *testing.T) {
	all := func(n int, wanted ...shape.Node) {
		t.Helper()
		checkNodes(t, "All", n, 0, shape.All(n), wanted...)
	}
	all(1, node(0, 1))
	all(2, node(0, 2), node(0, 1), node(1, 1))
	all(3, node(0, 3), node(0, 2), node(0, 1), node(1, 1), node(2, 1))
	all(4, node(0, 4), node(0, 2), node(0, 1), node(1, 1), node(2, 2), node(2, 1), node(3, 1))
	all(5, node(0, 5), node(0, 4), node(0, 2), node(0, 1), node(1, 1), node(2, 2), node(2, 1), node(3, 1), node(4, 1))
	all(6, node(0, 6), node(0, 4), node(0, 2), node(0, 1), node(1, 1), node(2, 2), node(2, 1), node(3, 1), node(4, 2), node(4, 1), node(5, 1))
	all(7, node(0, 7), node(0, 4), node(0, 2), node(0, 1), node(1, 1), node(2, 2), node(2, 1), node(3, 1), node(4, 3), node(4, 2), node(4, 1), node(5, 1), node(6, 1))
}

// preorder: a node and all below it, by the document's words.
func preorder(v shape.Node) []shape.Node {
	if v.Size == 1 {
		return []shape.Node{v}
	}
	left, right := kids(v)
	return slices.Concat([]shape.Node{v}, preorder(left), preorder(right))
}

// P11.1, P11.3: All of each tree, twice n nodes, less one, no two of them one; and each one's Index.
func TestAllAndIndex(t *testing.T) {
	for n := 1; n <= 1024; n++ {
		list := shape.All(n)
		if len(list) != 2*n-1 {
			t.Fatalf("All of %d has %d nodes", n, len(list))
		}
		if n < 40 || n%17 == 0 || n > 1020 {
			checkNodes(t, "All", n, 0, list, preorder(node(0, n))...)
		}
		places := map[shape.Node]int{}
		for place, v := range list {
			checkIndex(t, n, v, place)
			places[v] = place
		}
		if len(places) != len(list) || list[0] != node(0, n) {
			t.Errorf("All of %d has a node twice, or another root: %v", n, list)
		}
	}
}

// P11.1: Index of what is no node there.
func TestIndexOfOthers(t *testing.T) {
	for n := 1; n <= 40; n++ {
		list := preorder(node(0, n))
		for from := -3; from <= n+3; from++ {
			for size := -3; size <= n+3; size++ {
				checkIndex(t, n, node(from, size), slices.Index(list, node(from, size)))
			}
		}
	}
	odd := []int{math.MinInt, math.MinInt + 1, -1, math.MaxInt - 1, math.MaxInt}
	for _, n := range []int{1, 2, 3, 5, 8, 513, 1023, 1024} {
		for _, from := range odd {
			checkIndex(t, n, node(from, 1), -1)
			checkIndex(t, n, node(from, n), -1)
			checkIndex(t, n, node(0, from), -1)
			checkIndex(t, n, node(n-1, from), -1)
			for _, size := range odd {
				checkIndex(t, n, node(from, size), -1)
			}
		}
		checkIndex(t, n, shape.Node{}, -1)
		checkIndex(t, n, node(0, n+1), -1)
		checkIndex(t, n, node(n, 1), -1)
	}
	checkIndex(t, 1024, node(1, 2), -1)
	checkIndex(t, 1024, node(512, 1024), -1)
	checkIndex(t, 1023, node(512, 512), -1)
	checkIndex(t, 1023, node(512, 511), 1024)
	checkIndex(t, 1024, node(1023, 1), 2046)
}

// P11.1: Has of each leaf of a node, of none beside it, and of none of a node without leaves.
func TestHas(t *testing.T) {
	for from := -4; from < 10; from++ {
		for size := -4; size < 10; size++ {
			for leaf := -12; leaf < 24; leaf++ {
				wanted := false
				for i := range max(size, 0) {
					wanted = wanted || from+i == leaf
				}
				checkHas(t, node(from, size), leaf, wanted)
			}
		}
	}
	for _, leaf := range []int{math.MinInt, -1, 0, 1, math.MaxInt} {
		for _, size := range []int{0, -1, math.MinInt, math.MinInt + 1, -math.MaxInt} {
			checkHas(t, node(leaf, size), leaf, false)
			checkHas(t, node(0, size), leaf, false)
			checkHas(t, node(math.MinInt, size), leaf, false)
			checkHas(t, node(math.MaxInt, size), leaf, false)
		}
		checkHas(t, node(leaf, 1), leaf, true)
		checkHas(t, node(leaf, math.MaxInt), leaf, true)
	}
}

// P11.1: Has, where the leaves' end, or how far a leaf is, is above all numbers.
func TestHasAtTheEnds(t *testing.T) {
	checkHas(t, node(math.MaxInt, 1), math.MaxInt, true)
	checkHas(t, node(math.MaxInt, 5), math.MaxInt, true)
	checkHas(t, node(math.MaxInt, 5), math.MinInt, false)
	checkHas(t, node(math.MaxInt, 5), math.MinInt+1, false)
	checkHas(t, node(math.MaxInt, math.MaxInt), math.MaxInt, true)
	checkHas(t, node(math.MaxInt, math.MaxInt), math.MaxInt-1, false)
	checkHas(t, node(math.MaxInt, math.MaxInt), -2, false)
	checkHas(t, node(1, math.MaxInt), math.MaxInt, true)
	checkHas(t, node(0, math.MaxInt), math.MaxInt, false)
	checkHas(t, node(0, math.MaxInt), math.MaxInt-1, true)
	checkHas(t, node(1, math.MaxInt), math.MinInt, false)
	checkHas(t, node(math.MinInt, math.MaxInt), math.MaxInt, false)
	checkHas(t, node(math.MinInt, math.MaxInt), 0, false)
	checkHas(t, node(math.MinInt, math.MaxInt), -1, false)
	checkHas(t, node(math.MinInt, math.MaxInt), -2, true)
	checkHas(t, node(math.MinInt, 1), math.MinInt, true)
	checkHas(t, node(math.MinInt, 1), math.MaxInt, false)
}

// P11.2: paths and copaths of small trees, written out.
func TestPathWrittenOut(t *testing.T) {
	check := func(n, leaf int, path, copath []shape.Node) {
		t.Helper()
		checkNodes(t, "Path", n, leaf, shape.Path(n, leaf), path...)
		checkNodes(t, "Copath", n, leaf, shape.Copath(n, leaf), copath...)
		checkDepth(t, n, leaf, len(copath))
	}
	type list = []shape.Node
	check(1, 0, list{node(0, 1)}, nil)
	check(2, 0, list{node(0, 1), node(0, 2)}, list{node(1, 1)})
	check(2, 1, list{node(1, 1), node(0, 2)}, list{node(0, 1)})
	check(3, 0, list{node(0, 1), node(0, 2), node(0, 3)}, list{node(1, 1), node(2, 1)})
	check(3, 1, list{node(1, 1), node(0, 2), node(0, 3)}, list{node(0, 1), node(2, 1)})
	check(3, 2, list{node(2, 1), node(0, 3)}, list{node(0, 2)})
	check(5, 4, list{node(4, 1), node(0, 5)}, list{node(0, 4)})
	check(5, 2, list{node(2, 1), node(2, 2), node(0, 4), node(0, 5)}, list{node(3, 1), node(0, 2), node(4, 1)})
	check(7, 5, list{node(5, 1), node(4, 2), node(4, 3), node(0, 7)}, list{node(4, 1), node(6, 1), node(0, 4)})
	check(1024, 1023, []shape.Node{node(1023, 1), node(1022, 2), node(1020, 4), node(1016, 8), node(1008, 16), node(992, 32), node(960, 64), node(896, 128), node(768, 256), node(512, 512), node(0, 1024)},
		list{node(1022, 1), node(1020, 2), node(1016, 4), node(1008, 8), node(992, 16), node(960, 32), node(896, 64), node(768, 128), node(512, 256), node(0, 512)})
}

// checkRoads: a leaf's path begins at the leaf's node and ends at the root; each other one, and the copath's beside it, are the two kids of the next.
func checkRoads(t *testing.T, n, leaf int) {
	t.Helper()
	path, copath, depth := shape.Path(n, leaf), shape.Copath(n, leaf), shape.Depth(n, leaf)
	if len(path) != depth+1 || len(copath) != depth || path[0] != node(leaf, 1) || path[depth] != node(0, n) {
		t.Fatalf("of %d and %d: path %v, copath %v, depth %d", n, leaf, path, copath, depth)
	}
	leaves := 1
	for i, other := range copath {
		left, right := kids(path[i+1])
		if leaf >= right.From {
			left, right = right, left
		}
		if path[i] != left || other != right {
			t.Fatalf("of %d and %d: path %v, copath %v", n, leaf, path, copath)
		}
		leaves += other.Size
	}
	if leaves != n || depth > 10 {
		t.Errorf("of %d and %d: the copath %v has %d leaves", n, leaf, copath, leaves-1)
	}
}

// P11.2, P11.3: of each leaf of each tree.
func TestRoads(t *testing.T) {
	for n := 1; n <= 1024; n++ {
		for leaf := range n {
			checkRoads(t, n, leaf)
		}
	}
}

// P11.2: a path is all nodes that have the leaf; P11.3: of it and its copath the copath has each other leaf just once.
func TestEachLeafOnce(t *testing.T) {
	for _, n := range []int{1, 2, 3, 4, 5, 6, 7, 8, 9, 15, 16, 17, 31, 33, 100} {
		for leaf := range n {
			var path []shape.Node
			for _, v := range shape.All(n) {
				if v.Has(leaf) {
					path = append(path, v)
				}
			}
			slices.Reverse(path)
			checkNodes(t, "Path", n, leaf, shape.Path(n, leaf), path...)
			cover := append(shape.Copath(n, leaf), shape.Path(n, leaf)[0])
			for other := range n {
				times := 0
				for _, v := range cover {
					if v.Has(other) {
						times++
					}
				}
				if times != 1 {
					t.Errorf("of %d and %d: the leaf %d is there %d times", n, leaf, other, times)
				}
			}
		}
	}
}

// P11.2: of no tree nothing, whatever the leaf is.
func TestNoTree(t *testing.T) {
	for _, n := range noTrees() {
		if got := shape.All(n); len(got) != 0 {
			t.Errorf("All of %d has %d nodes", n, len(got))
		}
		for _, leaf := range append(noLeaves(8), 0, 1, n, n-1) {
			checkNodes(t, "Path", n, leaf, shape.Path(n, leaf))
			checkNodes(t, "Copath", n, leaf, shape.Copath(n, leaf))
			checkDepth(t, n, leaf, 0)
			checkIndex(t, n, node(leaf, 1), -1)
			checkIndex(t, n, node(0, n), -1)
			checkIndex(t, n, node(leaf, n), -1)
		}
		checkIndex(t, n, shape.Node{}, -1)
	}
}

// P11.2: of a tree's numbers that are no leaf's nothing, but Depth tells it.
func TestNoLeaf(t *testing.T) {
	for _, n := range []int{1, 2, 3, 4, 5, 8, 9, 1000, 1023} {
		for _, leaf := range noLeaves(n) {
			checkNodes(t, "Path", n, leaf, shape.Path(n, leaf))
			checkNodes(t, "Copath", n, leaf, shape.Copath(n, leaf))
			checkDepth(t, n, leaf, -1)
		}
	}
	for _, leaf := range []int{-1, 1024, 1025} {
		checkNodes(t, "Path", 1024, leaf, shape.Path(1024, leaf))
		checkNodes(t, "Copath", 1024, leaf, shape.Copath(1024, leaf))
		checkDepth(t, 1024, leaf, -1)
	}
	checkDepth(t, 1, 0, 0)
	checkDepth(t, 1024, 0, 10)
	checkDepth(t, 1023, 1022, 9)
	checkDepth(t, 513, 512, 1)
}

// Rules: an answer is nobody else's memory, spare room included, and hangs on nothing that was called ahead.
func TestNothingIsKept(t *testing.T) {
	calls := map[string]func() []shape.Node{
		"All":    func() []shape.Node { return shape.All(11) },
		"Path":   func() []shape.Node { return shape.Path(11, 6) },
		"Copath": func() []shape.Node { return shape.Copath(11, 6) },
	}
	for what, call := range calls {
		first := call()
		wanted := slices.Clone(first)
		second := call()
		for i := range second {
			second[i] = node(-1, -1)
		}
		longer := append(first, node(-2, -2))
		third := append(call(), node(-3, -3))
		checkNodes(t, what, 11, 6, first, wanted...)
		checkNodes(t, what, 11, 6, call(), wanted...)
		if longer[len(wanted)] != node(-2, -2) || third[len(wanted)] != node(-3, -3) {
			t.Errorf("%s: two answers share their spare room", what)
		}
	}
}
