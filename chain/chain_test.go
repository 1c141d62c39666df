package chain_test

import (
	"crypto/hkdf"
	"crypto/hmac"
	"crypto/sha256"
	"math"
	"math/rand"
	"slices"
	"strings"
	"testing"

	"sapwood/api"
	"sapwood/build"
	"sapwood/chain"
	"sapwood/path"
	"sapwood/update"
)

// anyText: so many bytes, any of them.
func anyText(random *rand.Rand, n int) string {
	b := make([]byte, n)
	random.Read(b)
	return string(b)
}

// anyKey: a key of any bytes.
func anyKey(random *rand.Rand) api.Key { return api.Key([]byte(anyText(random, 32))) }

// anyLink: a link of any keys, which needn't go together.
func anyLink(random *rand.Rand) chain.Link {
	return chain.Link{Stage: random.Uint32(), Key: anyKey(random), TagKey: anyKey(random), Past: anyKey(random)}
}

// anySteps: so many steps, each of another root and text.
func anySteps(random *rand.Rand, n int) []chain.Step {
	steps := make([]chain.Step, n)
	for i := range steps {
		steps[i] = chain.Step{Root: anyKey(random), Text: anyText(random, random.Intn(120))}
	}
	return steps
}

// turned: a key with one bit turned.
func turned(k api.Key, bit int) api.Key {
	k[bit/8] ^= 1 << (bit % 8)
	return k
}

// label: a key of a secret, by the library's HKDF, with the name as salt.
func label(t *testing.T, name, secret, info string) api.Key {
	t.Helper()
	b, err := hkdf.Key(sha256.New, []byte(secret), []byte(name), info, 32)
	if err != nil {
		t.Fatal(err)
	}
	return api.Key(b)
}

// linkOf: a link by the document's words and the library, of that stage, behind that key and past.
func linkOf(t *testing.T, stage uint32, old, past, root api.Key, text string) chain.Link {
	t.Helper()
	l := chain.Link{Stage: stage, Past: sha256.Sum256([]byte(string(past[:]) + text))}
	l.Key = label(t, "sapwood stage", string(old[:])+string(root[:]), string(l.Past[:]))
	l.TagKey = label(t, "sapwood tag", string(l.Key[:]), "")
	return l
}

// tagOf: a body's tag, by the library's HMAC.
func tagOf(key api.Key, body string) api.Key {
	h := hmac.New(sha256.New, key[:])
	h.Write([]byte(body))
	return api.Key(h.Sum(nil))
}

// checkLink: a call answered that.
func checkLink(t *testing.T, what string, got, wanted chain.Link) {
	t.Helper()
	if got != wanted {
		t.Errorf("%s is %x, wanted %x", what, got, wanted)
	}
}

// checkApart: no two of these links have the same key, or key of tags.
func checkApart(t *testing.T, what string, links ...chain.Link) {
	t.Helper()
	for i, l := range links {
		for _, m := range links[:i] {
			if l.Key == m.Key || l.TagKey == m.TagKey {
				t.Errorf("%s: %x and %x have a key in common", what, l, m)
			}
		}
	}
}

// checkVerify: Verify answers that.
func checkVerify(t *testing.T, what string, l chain.Link, body string, tag api.Key, wanted bool) {
	t.Helper()
	if got := l.Verify(body, tag); got != wanted {
		t.Errorf("%s: Verify is %v, wanted %v", what, got, wanted)
	}
}

// P20.1: the first link, of roots and bodies of any length.
func TestFirst(t *testing.T) {
	random := rand.New(rand.NewSource(1))
	for _, root := range []api.Key{{}, {1}, {31: 255}, anyKey(random), anyKey(random)} {
		for _, n := range []int{0, 1, 23, 24, 31, 32, 33, 64, 148, 5000} {
			body := anyText(random, n)
			checkLink(t, "First", chain.First(root, body), linkOf(t, 0, api.Key{}, api.Key{}, root, body))
		}
	}
}

// P20.1: the next link, of any link, root and text.
func TestNext(t *testing.T) {
	random := rand.New(rand.NewSource(2))
	for _, l := range []chain.Link{{}, {Stage: 1}, {Stage: 6, Key: api.Key{7}}, {Past: api.Key{8}}, anyLink(random), anyLink(random)} {
		for _, root := range []api.Key{{}, l.Key, l.Past, anyKey(random)} {
			for _, n := range []int{0, 1, 23, 24, 31, 32, 33, 64, 73, 5000} {
				before, text := l, anyText(random, n)
				checkLink(t, "Next", l.Next(root, text), linkOf(t, l.Stage+1, l.Key, l.Past, root, text))
				checkLink(t, "the one ahead", l, before)
			}
		}
	}
}

// P20.1: the stage is one more, modulo 2^32, and plays no part in the keys; nor does the key of tags.
func TestStage(t *testing.T) {
	l := anyLink(rand.New(rand.NewSource(3)))
	wanted := l.Next(api.Key{1}, "text")
	for stage, next := range map[uint32]uint32{0: 1, 1: 2, math.MaxInt32: 1 << 31, 1<<32 - 2: 1<<32 - 1, 1<<32 - 1: 0} {
		l.Stage, wanted.Stage = stage, next
		checkLink(t, "Next", l.Next(api.Key{1}, "text"), wanted)
		other := l
		other.TagKey = api.Key{9}
		checkLink(t, "Next behind another key of tags", other.Next(api.Key{1}, "text"), wanted)
	}
}

// P20.1: a first link is what is next behind nothing, but for its stage.
func TestFirstIsBehindNothing(t *testing.T) {
	first, next := chain.First(api.Key{5}, "body"), chain.Link{}.Next(api.Key{5}, "body")
	if first.Stage != 0 || next.Stage != 1 {
		t.Errorf("the stages are %d and %d", first.Stage, next.Stage)
	}
	next.Stage = 0
	checkLink(t, "First", first, next)
}

// P20.1: Sign by the key of tags, of bodies of any length; Verify of that tag.
func TestSign(t *testing.T) {
	random := rand.New(rand.NewSource(4))
	for _, l := range []chain.Link{{}, chain.First(api.Key{}, ""), chain.First(api.Key{1}, "body"), anyLink(random)} {
		for _, n := range []int{0, 1, 54, 55, 56, 63, 64, 65, 1000} {
			body := anyText(random, n)
			tag := l.Sign(body)
			if wanted := tagOf(l.TagKey, body); tag != wanted {
				t.Errorf("Sign of %d bytes is %x, wanted %x", n, tag, wanted)
			}
			checkVerify(t, "its tag", l, body, tag, true)
			checkVerify(t, "another body", l, body+"\x00", tag, false)
			checkVerify(t, "no tag", l, body, api.Key{}, false)
			checkVerify(t, "the key's tag", l, body, tagOf(turned(l.TagKey, n%256), body), false)
		}
	}
}

// P20.1: a tag of which any bit is turned isn't it; nor is one of another link, or body.
func TestVerify(t *testing.T) {
	l := chain.First(api.Key{1}, "body")
	next := l.Next(api.Key{2}, "text")
	tag := l.Sign("x")
	for bit := range 256 {
		checkVerify(t, "a tag with a bit turned", l, "x", turned(tag, bit), false)
		checkVerify(t, "a root with a bit turned", chain.First(turned(api.Key{1}, bit), "body"), "x", tag, false)
	}
	checkVerify(t, "the next link", next, "x", tag, false)
	checkVerify(t, "the next link's own", next, "x", next.Sign("x"), true)
	checkVerify(t, "the next link's", l, "x", next.Sign("x"), false)
	checkVerify(t, "of another setup", chain.First(api.Key{1}, "Body"), "x", tag, false)
	checkVerify(t, "another body", l, "y", tag, false)
	checkVerify(t, "no body", l, "", tag, false)
}

// P20.1: nothing but the key of tags plays a part in a tag.
func TestTagKeyAlone(t *testing.T) {
	random := rand.New(rand.NewSource(5))
	l, other := anyLink(random), anyLink(random)
	other.TagKey = l.TagKey
	checkVerify(t, "the same key of tags", other, "x", l.Sign("x"), true)
	l.Key, l.TagKey = l.TagKey, l.Key
	checkVerify(t, "the stage's key", l, "x", other.Sign("x"), false)
}

// P20.1: the first link, and the next one of each step, in order; of no steps the first alone.
func TestAll(t *testing.T) {
	random := rand.New(rand.NewSource(6))
	for _, n := range []int{0, 1, 2, 3, 10, 100, 1000} {
		root, body, steps := anyKey(random), anyText(random, 148), anySteps(random, n)
		links := chain.All(root, body, steps...)
		if len(links) != n+1 {
			t.Fatalf("of %d steps there are %d links", n, len(links))
		}
		wanted := linkOf(t, 0, api.Key{}, api.Key{}, root, body)
		checkLink(t, "All's first", links[0], wanted)
		for i, s := range steps {
			wanted = linkOf(t, uint32(i+1), wanted.Key, wanted.Past, s.Root, s.Text)
			checkLink(t, "All's next", links[i+1], wanted)
			checkLink(t, "Next", links[i].Next(s.Root, s.Text), wanted)
		}
		checkApart(t, "one behind the other", links...)
	}
}

// P20.1: no steps, however they are handed in; a step of nothing is one, too.
func TestAllOfNothing(t *testing.T) {
	first := chain.First(api.Key{3}, "body")
	for _, links := range [][]chain.Link{chain.All(api.Key{3}, "body"), chain.All(api.Key{3}, "body", nil...), chain.All(api.Key{3}, "body", []chain.Step{}...)} {
		if !slices.Equal(links, []chain.Link{first}) {
			t.Errorf("All without steps is %x", links)
		}
	}
	next := first.Next(api.Key{}, "")
	if links := chain.All(api.Key{3}, "body", chain.Step{}, chain.Step{}); !slices.Equal(links, []chain.Link{first, next, next.Next(api.Key{}, "")}) {
		t.Errorf("All of zero steps is %x", links)
	}
}

// P20.2: links that have been the same go on the same, and those that haven't don't.
func TestSameGoOnTheSame(t *testing.T) {
	random := rand.New(rand.NewSource(7))
	steps := anySteps(random, 6)
	links := chain.All(api.Key{1}, "body", steps...)
	for from := range links {
		l := links[from]
		for i, s := range steps[from:] {
			l = l.Next(s.Root, s.Text)
			checkLink(t, "on from there", l, links[from+i+1])
		}
	}
	for i := range steps {
		other := slices.Clone(steps)
		other[i].Text += "x"
		second := slices.Clone(steps)
		second[i].Root = turned(second[i].Root, i)
		third := chain.All(api.Key{1}, "body", second...)
		for k, l := range chain.All(api.Key{1}, "body", other...) {
			if k <= i {
				checkLink(t, "ahead of another step", l, links[k])
				checkLink(t, "ahead of another root", third[k], links[k])
			} else {
				checkApart(t, "behind another step", l, links[k], third[k])
			}
		}
	}
}

// P20.2: each bit of what is ahead plays a part; so do the order of steps, and where texts end.
func TestEachBit(t *testing.T) {
	l, root := chain.Link{Key: api.Key{1}, Past: api.Key{2}}, api.Key{3}
	wanted := l.Next(root, "text")
	for bit := range 256 {
		key, past := l, l
		key.Key, past.Past = turned(l.Key, bit), turned(l.Past, bit)
		checkApart(t, "a bit turned", wanted, key.Next(root, "text"), past.Next(root, "text"), l.Next(turned(root, bit), "text"))
		checkApart(t, "a bit turned", chain.First(root, "text"), chain.First(turned(root, bit), "text"))
	}
	a, b := chain.Step{Root: api.Key{4}, Text: "a"}, chain.Step{Root: api.Key{4}, Text: "b"}
	one, two := chain.All(root, "body", a, b), chain.All(root, "body", b, a)
	three := chain.All(root, "body", chain.Step{Root: api.Key{4}, Text: "ab"})
	checkApart(t, "the order of steps", one[1], one[2], two[1], two[2], three[1])
}

// P2: whoever takes the same updates, in order, has one link: by paths of trees of all kinds of sizes, and texts as they are sent.
func TestOneChain(t *testing.T) {
	random := rand.New(rand.NewSource(8))
	for _, n := range []int{2, 3, 5, 6} {
		leaves := make([]api.Key, n)
		for i := range leaves {
			leaves[i] = anyKey(random)
		}
		tree, _ := build.Make(leaves...)
		paths, links := make([]path.Path, n), make([]chain.Link, n)
		for i := range paths {
			paths[i], _ = path.Make(n, i, leaves[i], tree.Copath(i)...)
			links[i] = chain.First(paths[i].Root(), "body")
		}
		for stage := range uint32(n + 1) {
			from := int(stage+1) % n
			text := renewed(t, paths, links, from, stage, anyKey(random))
			for i := range paths {
				if i != from {
					paths[i], links[i] = taken(t, paths[i], links[i], text)
				}
				checkLink(t, "a member's link", links[i], links[from])
			}
			if links[from].Stage != stage+1 {
				t.Errorf("the stage is %d, wanted %d", links[from].Stage, stage+1)
			}
		}
	}
}

// renewed: an update's text, of that leaf, which has its next path and link then.
func renewed(t *testing.T, paths []path.Path, links []chain.Link, from int, stage uint32, secret api.Key) string {
	t.Helper()
	p, _ := paths[from].Renew(secret)
	u := update.Update{Stage: stage, Leaf: uint16(from), Publics: p.Publics()}
	body, err := u.Body()
	if err != nil {
		t.Fatal(err)
	}
	u.Tag = links[from].Sign(body)
	text, _ := u.Write()
	paths[from], links[from] = p, links[from].Next(p.Root(), text)
	return text
}

// taken: the next path and link of one that took an update.
func taken(t *testing.T, p path.Path, l chain.Link, text string) (path.Path, chain.Link) {
	t.Helper()
	u, err := update.Parse(text)
	if err != nil || u.Fits(p.N()) != nil || u.Stage != l.Stage {
		t.Fatalf("the update is %v, %v", u, err)
	}
	body, _ := u.Body()
	checkVerify(t, "an update", l, body, u.Tag, true)
	p, ok := p.Take(int(u.Leaf), u.Publics...)
	if !ok {
		t.Fatal("the path can't take it")
	}
	return p, l.Next(p.Root(), text)
}

// Rules: an answer is nobody else's memory; what is handed in is left as it was, spare room included, and isn't kept.
func TestAnswersAreNew(t *testing.T) {
	random := rand.New(rand.NewSource(9))
	steps := anySteps(random, 5)
	before := slices.Clone(steps)
	links := chain.All(api.Key{1}, "body", steps[:3]...)
	wanted := slices.Clone(links)
	if !slices.Equal(steps, before) {
		t.Errorf("the steps are %v now", steps)
	}
	clear(steps)
	if !slices.Equal(links, wanted) {
		t.Error("behind the steps were changed the links are others")
	}
	clear(links[:cap(links)])
	if again := chain.All(api.Key{1}, "body", before[:3]...); !slices.Equal(again, wanted) {
		t.Error("behind an answer was changed the next one is another")
	}
}

// P1: no call panics, whatever the texts are.
func TestNoPanic(t *testing.T) {
	for _, text := range []string{"", "\x00", "\xff\xfe", "é", strings.Repeat("\x80", 65), strings.Repeat("界", 1000)} {
		l := chain.First(api.Key{}, text)
		checkLink(t, "First", l, linkOf(t, 0, api.Key{}, api.Key{}, api.Key{}, text))
		checkLink(t, "Next", l.Next(api.Key{}, text), linkOf(t, 1, l.Key, l.Past, api.Key{}, text))
		checkVerify(t, "a text", l, text, l.Sign(text), true)
	}
}
