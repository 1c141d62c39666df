package member_test

import (
	"crypto/ecdh"
	"crypto/hkdf"
	"crypto/sha256"
	"encoding/hex"
	"errors"
	"fmt"
	"math"
	"math/rand"
	"slices"
	"testing"

	"sapwood/api"
	"sapwood/build"
	"sapwood/bundle"
	"sapwood/chain"
	"sapwood/fault"
	"sapwood/member"
	"sapwood/path"
	"sapwood/setup"
	"sapwood/shape"
	"sapwood/update"
)

// anyKey: a key of any bytes.
func anyKey(random *rand.Rand) api.Key {
	var k api.Key
	random.Read(k[:])
	return k
}

// idle: public keys that share 0 with whatever secret, some of them written otherwise.
func idle(t *testing.T) []api.Key {
	t.Helper()
	list := []api.Key{{}, {1}, {31: 128}}
	for _, text := range []string{
		"e0eb7a7c3b41b8ae1656e3faf19fc46ada098deb9c32b1fd866205165f49b800",
		"5f9c95bca3508c24b1d0b1559c83ef5b04445cc4581c8e86d8224eddd09f1157",
		"ecffffffffffffffffffffffffffffffffffffffffffffffffffffffffffff7f",
		"edffffffffffffffffffffffffffffffffffffffffffffffffffffffffffffff",
	} {
		b, err := hex.DecodeString(text)
		if err != nil || len(b) != 32 {
			t.Fatalf("%s: the test itself is wrong", text)
		}
		list = append(list, api.Key(b))
	}
	return list
}

// base: a secret's public key, by the library's X25519.
func base(t *testing.T, secret api.Key) api.Key {
	t.Helper()
	s, err := ecdh.X25519().NewPrivateKey(secret[:])
	if err != nil {
		t.Fatal(err)
	}
	return api.Key(s.PublicKey().Bytes())
}

// leafOf: the secret of a leaf that a secret and a public key make, by the library's X25519 and HKDF.
func leafOf(t *testing.T, secret, public api.Key) api.Key {
	t.Helper()
	s, err := ecdh.X25519().NewPrivateKey(secret[:])
	if err != nil {
		t.Fatal(err)
	}
	p, err := ecdh.X25519().NewPublicKey(public[:])
	if err != nil {
		t.Fatal(err)
	}
	shared, err := s.ECDH(p)
	if err != nil {
		t.Fatal(err)
	}
	b, err := hkdf.Key(sha256.New, shared, []byte("sapwood leaf"), "", 32)
	if err != nil {
		t.Fatal(err)
	}
	return api.Key(b)
}

// turned: a text with a bit of one place turned.
func turned(text string, bit int) string {
	b := []byte(text)
	b[bit/8] ^= 1 << (bit % 8)
	return string(b)
}

// flipped: a key with a bit turned.
func flipped(k api.Key) api.Key {
	k[7] ^= 4
	return k
}

// bundleOf: a bundle's text, as it is written.
func bundleOf(t *testing.T, name uint32, keys ...bundle.Prekey) string {
	t.Helper()
	text, err := bundle.Bundle{Name: name, Keys: keys}.Write()
	if err != nil {
		t.Fatal(err)
	}
	return text
}

// told: what a path has, as a text.
func told(p path.Path) string {
	return fmt.Sprintf("%d %d %x %x %x", p.N(), p.Leaf(), p.Root(), p.Secrets(), p.Copath())
}

// all: all that a member has, as a text.
func all(m *member.Member) string {
	v := m.Vault()
	return fmt.Sprintf("%v %d %v %s %x %v %x %v", m == nil, m.Name(), m.In(), told(m.Path()), m.Link(), v.IDs(), v.Secrets(), v.Used())
}

// checkError: a call's error is of that number (0: it has none).
func checkError(t *testing.T, what string, err error, code api.Errno) {
	t.Helper()
	if fault.Code(err) != code || (err == nil) != (code == 0) {
		t.Errorf("%s: the error is %v, wanted %v", what, err, code)
	}
}

// checkRefused: a call has that error, no text, and changes nothing.
func checkRefused(t *testing.T, what string, m *member.Member, call func() (string, error), code api.Errno) {
	t.Helper()
	before := all(m)
	text, err := call()
	checkError(t, what, err, code)
	if text != "" || code == 0 {
		t.Errorf("%s: beside the error %v there is %x", what, err, text)
	}
	if got := all(m); got != before {
		t.Errorf("%s: %s was changed to %s", what, before, got)
	}
}

// checkNot: a text isn't taken, neither by the call for its kind nor by Receive, where that is another one.
func checkNot(t *testing.T, what string, m *member.Member, call func(string) error, text string, code api.Errno) {
	t.Helper()
	checkRefused(t, what, m, func() (string, error) { return "", call(text) }, code)
}

// checkOut: a member is in no group.
func checkOut(t *testing.T, what string, m *member.Member) {
	t.Helper()
	if m.In() || told(m.Path()) != told(path.Path{}) || m.Link() != (chain.Link{}) {
		t.Errorf("%s: In is %v, Path %s, Link %x", what, m.In(), told(m.Path()), m.Link())
	}
}

// checkIn: a member is in a group, with that path and link.
func checkIn(t *testing.T, what string, m *member.Member, p path.Path, l chain.Link) {
	t.Helper()
	if !m.In() || told(m.Path()) != told(p) || m.Link() != l {
		t.Errorf("%s: In is %v, Path %s, Link %x, wanted true, %s, %x", what, m.In(), told(m.Path()), m.Link(), told(p), l)
	}
}

// checkVault: a member has these numbers, and used those.
func checkVault(t *testing.T, what string, m *member.Member, ids, used []uint32) {
	t.Helper()
	if v := m.Vault(); !slices.Equal(v.IDs(), ids) || !slices.Equal(v.Used(), used) {
		t.Errorf("%s: the vault has %v, and used %v, wanted %v and %v", what, v.IDs(), v.Used(), ids, used)
	}
}

// checkLinks: members have one link, of that stage.
func checkLinks(t *testing.T, what string, stage uint32, members ...*member.Member) {
	t.Helper()
	for i, m := range members {
		if m.Link() != members[0].Link() || m.Link().Stage != stage || !m.In() {
			t.Errorf("%s: the link of %d is %x, wanted %x, of the stage %d", what, i, m.Link(), members[0].Link(), stage)
		}
	}
}

// publish: what a member publishes, which may be.
func publish(t *testing.T, m *member.Member, secrets ...api.Key) string {
	t.Helper()
	text, err := m.Publish(secrets...)
	checkError(t, "Publish", err, 0)
	return text
}

// create: a setup, which may be.
func create(t *testing.T, m *member.Member, leaf, fresh api.Key, bundles ...string) string {
	t.Helper()
	text, err := m.Create(leaf, fresh, bundles...)
	checkError(t, "Create", err, 0)
	return text
}

// renew: an update, which may be.
func renew(t *testing.T, m *member.Member, secret api.Key) string {
	t.Helper()
	text, err := m.Update(secret)
	checkError(t, "Update", err, 0)
	return text
}

// published: members of the names from 10 on, of which all but the first have published some prekeys; and their bundles.
func published(t *testing.T, n, prekeys int) ([]*member.Member, []string) {
	t.Helper()
	var members []*member.Member
	var bundles []string
	for i := range n {
		m := member.New(uint32(10 + i))
		members = append(members, m)
		if i > 0 {
			var secrets []api.Key
			for k := range prekeys {
				secrets = append(secrets, api.Key{byte(i), byte(i >> 8), byte(k), 1})
			}
			bundles = append(bundles, publish(t, m, secrets...))
		}
	}
	return members, bundles
}

// grouped: members in one group, whose maker is the first one.
func grouped(t *testing.T, n int) []*member.Member {
	t.Helper()
	members, bundles := published(t, n, 2)
	text := create(t, members[0], api.Key{100}, api.Key{101}, bundles...)
	for _, m := range members[1:] {
		checkError(t, "Accept", m.Accept(text), 0)
	}
	checkLinks(t, "behind a setup", 0, members...)
	return members
}

// read: a setup, as it is read.
func read(t *testing.T, text string) setup.Setup {
	t.Helper()
	s, err := setup.Parse(text)
	if err != nil {
		t.Fatal(err)
	}
	return s
}

// writeSetup: a setup's text, signed by the first link of that root.
func writeSetup(t *testing.T, s setup.Setup, root api.Key) string {
	t.Helper()
	body, err := s.Body()
	if err != nil {
		t.Fatal(err)
	}
	s.Tag = chain.First(root, body).Sign(body)
	text, err := s.Write()
	if err != nil {
		t.Fatal(err)
	}
	return text
}

// writeUpdate: an update's text, signed by that link.
func writeUpdate(t *testing.T, u update.Update, l chain.Link) string {
	t.Helper()
	body, err := u.Body()
	if err != nil {
		t.Fatal(err)
	}
	u.Tag = l.Sign(body)
	text, err := u.Write()
	if err != nil {
		t.Fatal(err)
	}
	return text
}

// setupOf: the setup, its tree, and its link, of that maker and of whoever published these, by the document's words.
func setupOf(t *testing.T, name uint32, leaf, fresh api.Key, bundles ...string) (string, build.Tree, chain.Link) {
	t.Helper()
	s := setup.Setup{Seats: []setup.Seat{{Name: name}}, Fresh: base(t, fresh)}
	leaves := []api.Key{leaf}
	for _, text := range bundles {
		b, err := bundle.Parse(text)
		if err != nil {
			t.Fatal(err)
		}
		s.Seats = append(s.Seats, setup.Seat{Name: b.Name, ID: b.Keys[0].ID})
		leaves = append(leaves, leafOf(t, fresh, b.Keys[0].Public))
	}
	tree, ok := build.Make(leaves...)
	if !ok {
		t.Fatal("there is no such tree")
	}
	s.Publics = tree.Publics()
	body, err := s.Body()
	if err != nil {
		t.Fatal(err)
	}
	return writeSetup(t, s, tree.Root()), tree, chain.First(tree.Root(), body)
}

// pathOf: the path of a tree's leaf.
func pathOf(t *testing.T, tree build.Tree, leaf int) path.Path {
	t.Helper()
	pair, _ := tree.Pair(shape.Node{From: leaf, Size: 1})
	p, ok := path.Make(tree.N(), leaf, pair.Secret, tree.Copath(leaf)...)
	if !ok {
		t.Fatal("there is no such path")
	}
	return p
}

// The example.
func TestExample(t *testing.T) {
	a, b := member.New(1), member.New(2)
	text := create(t, a, api.Key{1}, api.Key{2}, publish(t, b, api.Key{3}))
	checkError(t, "Accept", b.Accept(text), 0)
	checkLinks(t, "the example", 0, a, b)
}

// P22.1: a new one has its name, and nothing.
func TestNew(t *testing.T) {
	for _, name := range []uint32{0, 1, 7, math.MaxInt32, math.MaxUint32} {
		m := member.New(name)
		if m.Name() != name {
			t.Errorf("the name is %d, wanted %d", m.Name(), name)
		}
		checkOut(t, "a new one", m)
		checkVault(t, "a new one", m, nil, nil)
	}
}

// P22.1: a clone has the same, and nothing that is done with one is to be seen in the other one.
func TestClone(t *testing.T) {
	members := grouped(t, 3)
	members = append(members, member.New(4))
	for _, m := range members {
		before := all(m)
		c := m.Clone()
		if all(c) != before {
			t.Errorf("the clone is %s, wanted %s", all(c), before)
		}
		publish(t, c, api.Key{50}, api.Key{51})
		if c.In() {
			renew(t, c, api.Key{52})
		}
		if all(m) != before {
			t.Errorf("behind its clone was changed it is %s, wanted %s", all(m), before)
		}
		other := all(c)
		publish(t, m, api.Key{53})
		if m.In() {
			renew(t, m, api.Key{54})
			checkError(t, "Leave", m.Leave(), 0)
		}
		if all(c) != other {
			t.Errorf("behind it was changed its clone is %s, wanted %s", all(c), other)
		}
	}
}

// P22.1: a clone of one that may accept accepts, and the first one may, still.
func TestCloneAccepts(t *testing.T) {
	members, bundles := published(t, 2, 1)
	text := create(t, members[0], api.Key{1}, api.Key{2}, bundles...)
	c := members[1].Clone()
	checkError(t, "the clone's Accept", c.Accept(text), 0)
	checkVault(t, "the clone", c, nil, []uint32{0})
	checkVault(t, "the first one", members[1], []uint32{0}, nil)
	checkError(t, "Accept", members[1].Accept(text), 0)
	checkLinks(t, "both", 0, members[0], members[1], c)
}

// P22.1: the vault is a clone, each time.
func TestVault(t *testing.T) {
	m := member.New(1)
	publish(t, m, api.Key{1}, api.Key{2})
	before := all(m)
	v := m.Vault()
	if _, err := v.Take(0); err != nil || v.Add(7, api.Key{7}) != nil {
		t.Error("the vault can't be used")
	}
	if all(m) != before {
		t.Errorf("behind its vault was changed it is %s, wanted %s", all(m), before)
	}
	publish(t, m, api.Key{3})
	if !slices.Equal(v.IDs(), []uint32{1, 7}) {
		t.Errorf("behind it published the vault has %v", v.IDs())
	}
}

// P22.1: each secret is there under the next number; what is told is all that is there.
func TestPublish(t *testing.T) {
	m := member.New(0x01020304)
	var wanted []bundle.Prekey
	for _, n := range []int{0, 1, 0, 3, 10, 50} {
		var secrets []api.Key
		for range n {
			id := uint32(len(wanted))
			secret := api.Key{byte(id % 5), 9} // some stand there twice
			secrets = append(secrets, secret)
			wanted = append(wanted, bundle.Prekey{ID: id, Public: base(t, secret)})
		}
		if got := publish(t, m, secrets...); got != bundleOf(t, 0x01020304, wanted...) {
			t.Errorf("of %d more there is %x", n, got)
		}
		checkOut(t, "who publishes", m)
	}
	if got := m.Vault().Secrets(); len(got) != 64 || got[0] != (api.Key{0, 9}) || got[63] != (api.Key{3, 9}) {
		t.Errorf("the secrets are %x", got)
	}
}

// P22.1: where there would be more than 64 none is added.
func TestPublishMany(t *testing.T) {
	random := rand.New(rand.NewSource(1))
	secrets := make([]api.Key, 1000)
	for i := range secrets {
		secrets[i] = anyKey(random)
	}
	for _, there := range []int{0, 1, 60, 63, 64} {
		m := member.New(1)
		publish(t, m, secrets[:there]...)
		for _, more := range []int{65 - there, 66 - there, 100, 1000} {
			checkRefused(t, "too many", m, func() (string, error) { return m.Publish(secrets[:more]...) }, api.ErrMany)
		}
		publish(t, m, secrets[there:64]...)
		if !slices.Equal(m.Vault().Secrets(), secrets[:64]) {
			t.Errorf("%d, and the others: the secrets are others", there)
		}
	}
}

// P22.1: a number that was used isn't given again, also the greatest one; who is in a group may publish, too.
func TestPublishBehindAccept(t *testing.T) {
	members, _ := published(t, 2, 0)
	a, b := members[0], members[1]
	for i := range uint32(3) {
		text := create(t, a, api.Key{1}, api.Key{byte(i)}, publish(t, b, api.Key{byte(i), 5}))
		checkError(t, "Accept", b.Accept(text), 0)
		checkVault(t, "behind Accept", b, nil, []uint32{0, 1, 2}[:i+1])
		p, l := b.Path(), b.Link()
		if got := publish(t, b); got != bundleOf(t, 11) {
			t.Errorf("without prekeys it publishes %x", got)
		}
		checkIn(t, "who publishes", b, p, l)
		checkError(t, "Leave", a.Leave(), 0)
		checkError(t, "Leave", b.Leave(), 0)
	}
	if got := publish(t, a, api.Key{8}); got != bundleOf(t, 10, bundle.Prekey{ID: 0, Public: base(t, api.Key{8})}) {
		t.Errorf("the maker publishes %x", got)
	}
}

// P22.2: the setup, the path and the link, of groups of some sizes.
func TestCreate(t *testing.T) {
	random := rand.New(rand.NewSource(2))
	for _, n := range []int{2, 3, 4, 5, 8, 11} {
		members, bundles := published(t, n, n%3+1)
		leaf, fresh := anyKey(random), anyKey(random)
		publish(t, members[0], api.Key{9})
		wanted, tree, l := setupOf(t, 10, leaf, fresh, bundles...)
		if got := create(t, members[0], leaf, fresh, bundles...); got != wanted {
			t.Errorf("the setup of %d is %x, wanted %x", n, got, wanted)
		}
		checkIn(t, "the maker", members[0], pathOf(t, tree, 0), l)
		checkVault(t, "the maker", members[0], []uint32{0}, nil)
	}
}

// P22.2: of each bundle the first prekey, whatever its number, and whatever the others are.
func TestCreateByTheFirst(t *testing.T) {
	public := base(t, api.Key{3})
	one := bundleOf(t, 2, bundle.Prekey{ID: math.MaxUint32, Public: public}, bundle.Prekey{ID: 0}, bundle.Prekey{ID: 5, Public: base(t, api.Key{4})})
	two := bundleOf(t, math.MaxUint32, bundle.Prekey{ID: 0, Public: public})
	wanted, _, _ := setupOf(t, 0, api.Key{1}, api.Key{2}, one, two)
	if got := create(t, member.New(0), api.Key{1}, api.Key{2}, one, two); got != wanted {
		t.Errorf("the setup is %x, wanted %x", got, wanted)
	}
}

// P22.2, P22.3: a group of 1024, and no greater one.
func TestGreatest(t *testing.T) {
	members, bundles := published(t, 1025, 1)
	a := members[0]
	checkRefused(t, "of 1025", a, func() (string, error) { return a.Create(api.Key{1}, api.Key{2}, bundles...) }, api.ErrSize)
	text := create(t, a, api.Key{1}, api.Key{2}, bundles[:1023]...)
	some := []*member.Member{a, members[1], members[512], members[1023]}
	for _, m := range some[1:] {
		checkError(t, "Accept", m.Accept(text), 0)
	}
	checkLinks(t, "of 1024", 0, some...)
	u := renew(t, some[3], api.Key{7})
	for _, m := range some[:3] {
		checkError(t, "Process", m.Process(u), 0)
	}
	checkLinks(t, "of 1024", 1, some...)
	checkNot(t, "without a seat", members[1024], members[1024].Accept, text, api.ErrName)
}

// P22.2: each error, and of several the one that is named first, bundle by bundle.
func TestCreateErrors(t *testing.T) {
	m := member.New(1)
	good, none, own := bundle.Prekey{Public: base(t, api.Key{5})}, bundleOf(t, 3), bundleOf(t, 1)
	right := bundleOf(t, 2, good)
	for _, c := range []struct {
		what    string
		code    api.Errno
		bundles []string
	}{
		{"no bundles", api.ErrSize, nil},
		{"nothing", api.ErrTruncated, []string{""}},
		{"cut", api.ErrTruncated, []string{right[:len(right)-1]}},
		{"longer", api.ErrTrailing, []string{right + "x"}},
		{"another version", api.ErrVersion, []string{"\x02" + right[1:]}},
		{"another kind", api.ErrKind, []string{"\x01\x02" + right[2:]}},
		{"too many prekeys", api.ErrMany, []string{right[:6] + "\x00\x41" + right[8:]}},
		{"a number twice", api.ErrForm, []string{right[:7] + "\x02" + right[8:] + right[8:]}},
		{"no prekeys", api.ErrNone, []string{none}},
		{"no prekeys, of its own name", api.ErrNone, []string{own}},
		{"its own name", api.ErrName, []string{bundleOf(t, 1, good)}},
		{"its own name, and a key that shares nothing", api.ErrName, []string{bundleOf(t, 1, bundle.Prekey{ID: 1})}},
		{"a name twice", api.ErrName, []string{right, bundleOf(t, 3, good), bundleOf(t, 2, good)}},
		{"one bundle twice", api.ErrName, []string{right, right}},
		{"its own name behind", api.ErrName, []string{right, bundleOf(t, 1, good)}},
		{"a key that shares nothing", api.ErrZero, []string{bundleOf(t, 2, bundle.Prekey{ID: 1}, good)}},
		{"no prekeys, then nothing", api.ErrNone, []string{right, none, ""}},
		{"nothing, then no prekeys", api.ErrTruncated, []string{right, "", none}},
		{"sharing nothing, then nothing", api.ErrZero, []string{right, bundleOf(t, 3, bundle.Prekey{}), ""}},
		{"twice, then sharing nothing", api.ErrName, []string{right, right, bundleOf(t, 3, bundle.Prekey{})}},
		{"a longer one of its own name", api.ErrTrailing, []string{bundleOf(t, 1, good) + "x"}},
		{"1024 of nothing", api.ErrSize, make([]string, 1024)},
		{"1023 of nothing", api.ErrTruncated, make([]string, 1023)},
		{"5000 of nothing", api.ErrSize, make([]string, 5000)},
	} {
		create := func() (string, error) { return m.Create(api.Key{1}, api.Key{2}, c.bundles...) }
		checkRefused(t, c.what, m, create, c.code)
	}
	for _, k := range idle(t) {
		one := bundleOf(t, 2, bundle.Prekey{Public: k})
		checkRefused(t, "sharing nothing", m, func() (string, error) { return m.Create(api.Key{1}, api.Key{2}, one) }, api.ErrZero)
	}
	create(t, m, api.Key{1}, api.Key{2}, right)
	for _, bundles := range [][]string{nil, {right}, {""}, {none}, {own}} {
		checkRefused(t, "in a group", m, func() (string, error) { return m.Create(api.Key{1}, api.Key{2}, bundles...) }, api.ErrState)
	}
}

// P22.3: the path and the link, of each seat of groups of some sizes; the prekey is used, by whichever number.
func TestAccept(t *testing.T) {
	for _, n := range []int{2, 3, 5, 6, 9} {
		members, bundles := published(t, n, 3)
		text, tree, l := setupOf(t, 10, api.Key{100}, api.Key{101}, bundles...)
		for i, m := range members[1:] {
			if i%2 == 1 {
				checkError(t, "Receive", m.Receive(text), 0)
			} else {
				checkError(t, "Accept", m.Accept(text), 0)
			}
			checkIn(t, "a seat", m, pathOf(t, tree, i+1), l)
			checkVault(t, "a seat", m, []uint32{1, 2}, []uint32{0})
			checkNot(t, "again", m, m.Accept, text, api.ErrState)
		}
	}
}

// P22.3: a prekey that isn't the first one.
func TestAcceptByAnother(t *testing.T) {
	members, bundles := published(t, 2, 3)
	b, err := bundle.Parse(bundles[0])
	checkError(t, "Parse", err, 0)
	text := create(t, members[0], api.Key{1}, api.Key{2}, bundleOf(t, 11, b.Keys[1]))
	checkError(t, "Accept", members[1].Accept(text), 0)
	checkLinks(t, "both", 0, members...)
	checkVault(t, "by another", members[1], []uint32{0, 2}, []uint32{1})
}

// P22.3: a prekey that was used is gone, also behind Leave; a number that never was there is unknown.
func TestAcceptOnce(t *testing.T) {
	members, bundles := published(t, 2, 2)
	a, b := members[0], members[1]
	text := create(t, a, api.Key{1}, api.Key{2}, bundles[0])
	checkError(t, "Leave", a.Leave(), 0)
	again := create(t, a, api.Key{3}, api.Key{4}, bundles[0])
	checkError(t, "Accept", b.Accept(text), 0)
	checkError(t, "Leave", b.Leave(), 0)
	checkVault(t, "behind Leave", b, []uint32{1}, []uint32{0})
	checkNot(t, "the same one", b, b.Accept, text, api.ErrUsed)
	checkNot(t, "another one of that prekey", b, b.Accept, again, api.ErrUsed)
	checkNot(t, "its own", a, a.Accept, again, api.ErrState)
	checkError(t, "Leave", a.Leave(), 0)
	checkNot(t, "its own", a, a.Accept, again, api.ErrEcho)
	other := member.New(11)
	checkNot(t, "of one that has its name", other, other.Accept, again, api.ErrUnknown)
	publish(t, other, api.Key{200})
	checkNot(t, "of one that has its name", other, other.Accept, again, api.ErrMAC)
}

// faulty: what is wrong with a setup of three, of which the second one is asked.
type faulty struct{ in, longer, noSeat, echo, prekey, fresh, leaf, copath, tag bool }

// code: the error that is named first.
func (f faulty) code() api.Errno {
	switch {
	case f.in:
		return api.ErrState
	case f.longer:
		return api.ErrTrailing
	case f.noSeat:
		return api.ErrName
	case f.echo:
		return api.ErrEcho
	case f.prekey:
		return api.ErrUnknown
	case f.fresh:
		return api.ErrZero
	case f.leaf:
		return api.ErrMAC
	case f.copath:
		return api.ErrZero
	case f.tag:
		return api.ErrMAC
	}
	return 0
}

// text: that setup, signed as if all of it were right, but where the tag is what is wrong.
func (f faulty) text(t *testing.T, s setup.Setup, secret api.Key) string {
	t.Helper()
	s.Seats, s.Publics = slices.Clone(s.Seats), slices.Clone(s.Publics)
	if f.echo {
		s.Seats[0].Name, s.Seats[1].Name = 11, 10
	}
	if f.noSeat {
		s.Seats[1].Name, s.Seats[0].Name = 99, 98
	}
	if f.prekey {
		s.Seats[0].ID, s.Seats[1].ID = 77, 77
	}
	if f.leaf {
		s.Publics[2] = flipped(s.Publics[2]) // the nodes are (0, 3), (0, 2), (0, 1), (1, 1), (2, 1)
	}
	if f.copath {
		s.Publics[1] = api.Key{1}
	}
	p, _ := path.Make(3, 1, leafOf(t, secret, s.Fresh), s.Copath(1)...)
	if f.fresh {
		s.Fresh = api.Key{}
	}
	text := writeSetup(t, s, p.Root())
	if f.tag {
		text = turned(text, len(text)*8-1)
	}
	if f.longer {
		text += "x"
	}
	return text
}

// P22.3: each error alone, and of all unions of them the one that is named first.
func TestAcceptOrder(t *testing.T) {
	members, bundles := published(t, 3, 1)
	right := read(t, create(t, members[0], api.Key{1}, api.Key{2}, bundles...))
	outside, inside := members[1], members[1].Clone()
	create(t, inside, api.Key{1}, api.Key{2}, bundles[1])
	for bits := range 512 {
		has := func(bit int) bool { return bits&(1<<bit) != 0 }
		f := faulty{has(8), has(7), has(6), has(5), has(4), has(3), has(2), has(1), has(0)}
		text, m := f.text(t, right, api.Key{1, 0, 0, 1}), outside
		if f.in {
			m = inside
		}
		if f.code() != 0 {
			checkNot(t, fmt.Sprintf("%+v", f), m, m.Accept, text, f.code())
			checkNot(t, fmt.Sprintf("%+v", f), m, m.Receive, text, f.code())
		} else {
			checkError(t, "without faults", m.Clone().Accept(text), 0)
		}
	}
}

// P22.3: keys that share nothing, as the fresh one, and at each place of the copath.
func TestAcceptZero(t *testing.T) {
	members, bundles := published(t, 4, 1)
	s := read(t, create(t, members[0], api.Key{1}, api.Key{2}, bundles...))
	m := members[2]
	for _, k := range idle(t) {
		one := s
		one.Fresh = k
		checkNot(t, "a fresh key", m, m.Accept, writeSetup(t, one, api.Key{}), api.ErrZero)
		for _, place := range []int{0, 5} { // of (0, 2) and (3, 1), in (0, 4), (0, 2), (0, 1), (1, 1), (2, 2), (2, 1), (3, 1)
			one := s
			one.Publics = slices.Clone(s.Publics)
			one.Publics[place] = k
			checkNot(t, "a key of the copath", m, m.Accept, writeSetup(t, one, api.Key{}), api.ErrZero)
		}
	}
}

// P22.3: any bit turned, and any cut, also behind ends that fit another number of seats.
func TestAcceptTurned(t *testing.T) {
	members, bundles := published(t, 2, 1)
	text := create(t, members[0], api.Key{1}, api.Key{2}, bundles...)
	m := members[1]
	before := all(m)
	for bit := range len(text) * 8 {
		if err := m.Accept(turned(text, bit)); fault.Code(err) == 0 || bit >= 160 && bit < len(text)*8-256 && fault.Code(err) != api.ErrMAC {
			t.Errorf("with the bit %d turned the error is %v", bit, err)
		}
	}
	for bit := len(text)*8 - 256; bit < len(text)*8; bit++ {
		checkNot(t, "a bit of the tag", m, m.Accept, turned(text, bit), api.ErrMAC)
	}
	for cut := range len(text) {
		checkNot(t, "cut", m, m.Accept, text[:cut], api.ErrTruncated)
	}
	checkNot(t, "too long", m, m.Accept, text+string(make([]byte, 1<<17)), api.ErrLong)
	if all(m) != before {
		t.Errorf("behind all of these it is %s, wanted %s", all(m), before)
	}
	checkError(t, "Accept", m.Accept(text), 0)
	checkLinks(t, "at last", 0, members...)
}

// P22.4: the update's text, the path and the link behind it, by the document's words.
func TestUpdate(t *testing.T) {
	for _, n := range []int{2, 3, 5, 8} {
		members := grouped(t, n)
		for i, m := range members {
			for stage := range uint32(2) {
				secret := api.Key{byte(i), byte(stage), 7}
				before := m.Link()
				p, _ := m.Path().Renew(secret)
				wanted := writeUpdate(t, update.Update{Stage: stage, Leaf: uint16(i), Publics: p.Publics()}, before)
				if got := renew(t, m, secret); got != wanted {
					t.Errorf("the update of %d of %d is %x, wanted %x", i, n, got, wanted)
				}
				checkIn(t, "whoever made it", m, p, before.Next(p.Root(), wanted))
			}
		}
	}
}

// P22.5: the path and the link behind another one's update.
func TestProcess(t *testing.T) {
	for _, n := range []int{2, 3, 4, 5, 7} {
		members := grouped(t, n)
		for stage := range uint32(n + 1) {
			from := int(stage*2+1) % n
			text := renew(t, members[from], api.Key{byte(stage), 8})
			u, err := update.Parse(text)
			checkError(t, "Parse", err, 0)
			for i, m := range members {
				if i == from {
					continue
				}
				p, _ := m.Path().Take(from, u.Publics...)
				l := m.Link().Next(p.Root(), text)
				if i%2 == 0 {
					checkError(t, "Process", m.Process(text), 0)
				} else {
					checkError(t, "Receive", m.Receive(text), 0)
				}
				checkIn(t, "another one", m, p, l)
			}
			checkLinks(t, "behind an update", stage+1, members...)
			for _, m := range members {
				checkNot(t, "again", m, m.Process, text, api.ErrStage)
			}
		}
	}
}

// late: what is wrong with an update in a group of five, of which the fifth one is asked, by the link's owner or not.
type late struct{ out, longer, stage, leaf, path, echo, tag, zero bool }

// code: the error that is named first.
func (f late) code() api.Errno {
	switch {
	case f.out:
		return api.ErrState
	case f.longer:
		return api.ErrTrailing
	case f.stage:
		return api.ErrStage
	case f.leaf:
		return api.ErrLeaf
	case f.path:
		return api.ErrPath
	case f.echo:
		return api.ErrEcho
	case f.tag:
		return api.ErrMAC
	case f.zero:
		return api.ErrZero
	}
	return 0
}

// text: that update, signed as if all of it were right, but where the tag is what is wrong.
func (f late) text(t *testing.T, u update.Update, l chain.Link) string {
	t.Helper()
	u.Publics = slices.Clone(u.Publics)
	if f.zero {
		u.Publics[2] = api.Key{1} // of (0, 4), the only one that the fifth one takes
	}
	if f.stage {
		u.Stage++
	}
	if f.echo {
		u.Leaf, u.Publics = 4, u.Publics[2:]
	}
	if f.path {
		u.Publics = append(u.Publics, api.Key{9})
	}
	if f.leaf {
		u.Leaf = 5
	}
	text := writeUpdate(t, u, l)
	if f.tag {
		text = turned(text, len(text)*8-9)
	}
	if f.longer {
		text += "x"
	}
	return text
}

// P22.5: each error alone, and of all unions of them the one that is named first.
func TestProcessOrder(t *testing.T) {
	members := grouped(t, 5)
	l := members[1].Link()
	right, err := update.Parse(renew(t, members[1], api.Key{9}))
	checkError(t, "Parse", err, 0)
	inside, outside := members[4], members[4].Clone()
	checkError(t, "Leave", outside.Leave(), 0)
	for bits := range 256 {
		has := func(bit int) bool { return bits&(1<<bit) != 0 }
		f := late{has(7), has(6), has(5), has(4), has(3), has(2), has(1), has(0)}
		text, m := f.text(t, right, l), inside
		if f.out {
			m = outside
		}
		if f.code() != 0 {
			checkNot(t, fmt.Sprintf("%+v", f), m, m.Process, text, f.code())
			checkNot(t, fmt.Sprintf("%+v", f), m, m.Receive, text, f.code())
		} else {
			checkError(t, "without faults", m.Clone().Process(text), 0)
		}
	}
}

// P22.5: an update of an elder stage, and of one that is yet to come; that comes in its turn then.
func TestProcessStage(t *testing.T) {
	members := grouped(t, 3)
	a, b, c := members[0], members[1], members[2]
	one := renew(t, a, api.Key{1})
	checkError(t, "Process", b.Process(one), 0)
	two := renew(t, b, api.Key{2})
	checkNot(t, "yet to come", c, c.Process, two, api.ErrStage)
	checkError(t, "Process", c.Process(one), 0)
	checkNot(t, "an elder one", c, c.Process, one, api.ErrStage)
	checkError(t, "Process", c.Process(two), 0)
	checkNot(t, "its own", b, b.Process, two, api.ErrStage)
	checkNot(t, "an elder one", b, b.Process, one, api.ErrStage)
	checkError(t, "Process", a.Process(two), 0)
	checkLinks(t, "at last", 2, a, b, c)
}

// P22.5: two updates of one stage: who made one doesn't take the other one; who takes one doesn't, either.
func TestProcessTwo(t *testing.T) {
	members := grouped(t, 3)
	a, b, c := members[0], members[1], members[2]
	one, two := renew(t, a, api.Key{1}), renew(t, b, api.Key{2})
	checkNot(t, "another one's", a, a.Process, two, api.ErrStage)
	checkNot(t, "another one's", b, b.Process, one, api.ErrStage)
	checkError(t, "Process", c.Process(two), 0)
	checkNot(t, "the other one", c, c.Process, one, api.ErrStage)
	checkLinks(t, "both", 1, b, c)
	three := renew(t, a, api.Key{3})
	checkError(t, "Process", c.Process(renew(t, b, api.Key{4})), 0)
	checkNot(t, "apart", b, b.Process, three, api.ErrStage)
	four := renew(t, a, api.Key{5})
	checkNot(t, "apart, of the same stage", b, b.Process, four, api.ErrMAC)
	checkNot(t, "apart, of the same stage", c, c.Process, four, api.ErrMAC)
	if a.Link() == b.Link() {
		t.Error("with other histories both have one link")
	}
}

// P22.5: one's own update is never taken, not even by a clone that didn't make it.
func TestProcessEcho(t *testing.T) {
	members := grouped(t, 3)
	for _, m := range members {
		c := m.Clone()
		text := renew(t, m, api.Key{9})
		checkNot(t, "by a clone", c, c.Process, text, api.ErrEcho)
		checkNot(t, "by a clone, with another tag", c, c.Process, turned(text, len(text)*8-1), api.ErrEcho)
		checkNot(t, "its own", m, m.Process, text, api.ErrStage)
	}
}

// P22.5: keys that share nothing are refused where the path takes them, and only there.
func TestProcessZero(t *testing.T) {
	members := grouped(t, 4)
	l := members[0].Link()
	right, err := update.Parse(renew(t, members[0], api.Key{9}))
	checkError(t, "Parse", err, 0)
	for _, k := range idle(t) {
		for place, zero := range [][]int{{1}, {2, 3}} { // of the leaf, and of the node above
			u := right
			u.Publics = slices.Clone(right.Publics)
			u.Publics[place] = k
			text := writeUpdate(t, u, l)
			for i, m := range members[1:] {
				if slices.Contains(zero, i+1) {
					checkNot(t, "a key that shares nothing", m, m.Process, text, api.ErrZero)
				} else {
					checkError(t, "a key that it doesn't take", m.Clone().Process(text), 0)
				}
			}
		}
	}
}

// P22.5: any bit turned, and any cut.
func TestProcessTurned(t *testing.T) {
	members := grouped(t, 3)
	text := renew(t, members[0], api.Key{9})
	m := members[2]
	before := all(m)
	for bit := range len(text) * 8 {
		if err := m.Process(turned(text, bit)); fault.Code(err) == 0 || bit >= 72 && fault.Code(err) != api.ErrMAC {
			t.Errorf("with the bit %d turned the error is %v", bit, err)
		}
	}
	for cut := range len(text) {
		checkNot(t, "cut", m, m.Process, text[:cut], api.ErrTruncated)
	}
	if all(m) != before {
		t.Errorf("behind all of these it is %s, wanted %s", all(m), before)
	}
	checkError(t, "Process", m.Process(text), 0)
	checkLinks(t, "at last", 1, members[0], m)
}

// P22.5: updates of other groups, whose trees are greater or smaller; and a setup, where it is in a group.
func TestProcessOfAnotherGroup(t *testing.T) {
	one, two := grouped(t, 3), grouped(t, 5)
	text := renew(t, one[0], api.Key{9})
	checkNot(t, "another group's", two[1], two[1].Process, text, api.ErrPath)
	checkNot(t, "another group's", two[4], two[4].Process, text, api.ErrPath)
	text = renew(t, two[4], api.Key{9})
	checkNot(t, "another group's", one[1], one[1].Process, text, api.ErrLeaf)
	text = create(t, member.New(50), api.Key{1}, api.Key{2}, publish(t, one[1]), publish(t, one[2]))
	checkNot(t, "a setup", one[1], one[1].Receive, text, api.ErrState)
}

// P22.5: whatever is no setup and no update.
func TestReceive(t *testing.T) {
	members, bundles := published(t, 2, 2)
	a, b := members[0], members[1]
	for _, m := range []*member.Member{a, b} {
		for _, text := range []string{"", "x", "\x01", "\x02", "\x03", "xx", "\x01\x00", "\x01\x01", "\x01\x04", "\x01\xff", "\x02\x01rest", bundles[0]} {
			checkNot(t, "of another kind", m, m.Receive, text, api.ErrKind)
		}
		checkNot(t, "a setup, cut", m, m.Receive, "\x01\x02", api.ErrTruncated)
		checkNot(t, "a setup of another version", m, m.Receive, "\x02\x02\x00\x02", api.ErrVersion)
		checkNot(t, "an update", m, m.Receive, "\x01\x03", api.ErrState)
	}
	text := create(t, a, api.Key{1}, api.Key{2}, bundles...)
	checkNot(t, "a setup", a, a.Receive, text, api.ErrState)
	checkNot(t, "a setup, cut", a, a.Receive, "\x01\x02", api.ErrState)
	checkNot(t, "an update, cut", a, a.Receive, "\x01\x03", api.ErrTruncated)
	checkNot(t, "an update of another version", a, a.Receive, "\x02\x03"+string(make([]byte, 7)), api.ErrVersion)
	checkNot(t, "a bundle", a, a.Receive, bundles[0], api.ErrKind)
	checkNot(t, "a setup, processed", b, b.Process, text, api.ErrState)
	checkError(t, "Receive", b.Receive(text), 0)
	checkNot(t, "a setup, processed", b, b.Process, text, api.ErrKind)
	u := renew(t, a, api.Key{3})
	checkError(t, "Leave", a.Leave(), 0)
	checkNot(t, "an update, accepted", a, a.Accept, u, api.ErrKind)
	checkError(t, "Receive", b.Receive(u), 0)
}

// P22.5, P22.4: in no group any more; nothing but its name and vault stays.
func TestLeave(t *testing.T) {
	for _, m := range append(grouped(t, 3), member.New(5)) {
		publish(t, m, api.Key{70})
		v := fmt.Sprint(m.Vault().IDs(), m.Vault().Secrets(), m.Vault().Used())
		if m.In() {
			checkError(t, "Leave", m.Leave(), 0)
		}
		checkOut(t, "behind Leave", m)
		if got := fmt.Sprint(m.Vault().IDs(), m.Vault().Secrets(), m.Vault().Used()); got != v {
			t.Errorf("behind Leave the vault has %s, wanted %s", got, v)
		}
		checkRefused(t, "Leave again", m, func() (string, error) { return "", m.Leave() }, api.ErrState)
		checkRefused(t, "Update", m, func() (string, error) { return m.Update(api.Key{1}) }, api.ErrState)
		checkNot(t, "Process", m, m.Process, "", api.ErrState)
		create(t, m, api.Key{1}, api.Key{2}, bundleOf(t, 99, bundle.Prekey{Public: base(t, api.Key{4})}))
	}
}

// P22.5: of nil.
func TestNil(t *testing.T) {
	var m *member.Member
	if m.Clone() != nil || m.Vault() != nil || m.Name() != 0 {
		t.Errorf("of nil: Clone %v, Vault %v, Name %d", m.Clone(), m.Vault(), m.Name())
	}
	checkOut(t, "nil", m)
	for _, call := range []func() (string, error){
		func() (string, error) { return m.Publish() },
		func() (string, error) { return m.Publish(api.Key{1}) },
		func() (string, error) { return m.Create(api.Key{1}, api.Key{2}) },
		func() (string, error) { return m.Create(api.Key{1}, api.Key{2}, "") },
		func() (string, error) { return m.Update(api.Key{1}) },
		func() (string, error) { return "", m.Leave() },
	} {
		checkRefused(t, "nil", m, call, api.ErrNil)
	}
	for _, call := range []func(string) error{m.Accept, m.Process, m.Receive} {
		for _, text := range []string{"", "x", "\x01\x02", "\x01\x03"} {
			checkNot(t, "nil", m, call, text, api.ErrNil)
		}
	}
}

// post: a message, with what its maker's history was ahead of it.
type post struct {
	text    string
	setup   bool
	ahead   string
	leaf    int
	version uint32
}

// player: a member, with what its history is by the texts that it took.
type player struct {
	m       *member.Member
	history string
	leaf    int
	stage   uint32
	used    map[string]bool
}

// code: what a message should be answered.
func (p *player) code(x post, name int) api.Errno {
	switch {
	case x.setup && p.history != "" || !x.setup && p.history == "":
		return api.ErrState
	case x.setup && x.leaf == name: // whose leaf is 0
		return api.ErrEcho
	case x.setup && p.used[x.text]:
		return api.ErrUsed
	case x.setup:
		return 0
	case x.version != p.stage:
		return api.ErrStage
	case x.leaf == p.leaf:
		return api.ErrEcho
	case x.ahead != p.history:
		return api.ErrMAC
	}
	return 0
}

// P22.6, P2, P4: messages come late, twice, or never: they are taken, or refused with nothing changed; who took the same ones has one link, and nobody else has that.
func TestAny(t *testing.T) {
	for seed := range int64(6) {
		random := rand.New(rand.NewSource(seed))
		var players []*player
		for name := range 4 {
			players = append(players, &player{m: member.New(uint32(name)), used: map[string]bool{}})
		}
		var posts []post
		for step := range 400 {
			name := random.Intn(4)
			p := players[name]
			switch what := random.Intn(20); {
			case what == 0 && p.history == "" && step < 300: // so that no vault comes to have too many
				posts = append(posts, p.create(t, players, name, random))
			case what == 1 && p.history != "":
				checkError(t, "Leave", p.m.Leave(), 0)
				p.history = ""
			case what == 2 && p.history != "":
				posts = append(posts, p.renew(t, random))
			case len(posts) > 0:
				p.receive(t, posts[len(posts)-1-random.Intn(min(len(posts), 4+what/17*30))], name)
			}
			checkHistories(t, players)
		}
	}
}

// create: a setup of all, where each seat has a prekey of its own.
func (p *player) create(t *testing.T, players []*player, name int, random *rand.Rand) post {
	t.Helper()
	var bundles []string
	for i, other := range players {
		if i != name {
			b, err := bundle.Parse(publish(t, other.m, anyKey(random)))
			checkError(t, "Parse", err, 0)
			bundles = append(bundles, bundleOf(t, uint32(i), b.Keys[len(b.Keys)-1]))
		}
	}
	text := create(t, p.m, anyKey(random), anyKey(random), bundles...)
	p.history, p.leaf, p.stage = text, 0, 0
	return post{text: text, setup: true, leaf: name}
}

// renew: an update.
func (p *player) renew(t *testing.T, random *rand.Rand) post {
	t.Helper()
	x := post{ahead: p.history, leaf: p.leaf, version: p.stage}
	x.text = renew(t, p.m, anyKey(random))
	p.history, p.stage = p.history+x.text, p.stage+1
	return x
}

// receive: a message, which is answered what it should be; turned ones never are taken.
func (p *player) receive(t *testing.T, x post, name int) {
	t.Helper()
	code := p.code(x, name)
	wrong := turned(x.text, len(x.text)*8-1)
	if code == 0 {
		checkNot(t, "a tag turned", p.m, p.m.Receive, wrong, api.ErrMAC)
		checkError(t, "Receive", p.m.Receive(x.text), 0)
	} else {
		checkNot(t, "a tag turned", p.m, p.m.Receive, wrong, code)
		checkNot(t, "a message", p.m, p.m.Receive, x.text, code)
		return
	}
	if x.setup {
		place, _ := read(t, x.text).Seat(uint32(name))
		p.used[x.text], p.history, p.leaf, p.stage = true, x.text, place, 0
	} else {
		p.history, p.stage = p.history+x.text, p.stage+1
	}
}

// checkHistories: who has the same history has the same link, and nobody else has it; who has none has none.
func checkHistories(t *testing.T, players []*player) {
	t.Helper()
	for i, p := range players {
		if p.history == "" {
			checkOut(t, "without a history", p.m)
			continue
		}
		if p.m.Link().Stage != p.stage || p.m.Path().Leaf() != p.leaf || !p.m.In() {
			t.Errorf("the stage is %d, the leaf %d, wanted %d, %d", p.m.Link().Stage, p.m.Path().Leaf(), p.stage, p.leaf)
		}
		for _, q := range players[:i] {
			if (p.history == q.history) != (p.m.Link() == q.m.Link()) {
				t.Errorf("the same history: %v; the same link: %v", p.history == q.history, p.m.Link() == q.m.Link())
			}
		}
	}
}

// P3: a secret that was superseded isn't there any more, nor one that was used.
func TestGone(t *testing.T) {
	members := grouped(t, 3)
	for i, m := range members {
		old := m.Path().Secrets()
		renew(t, m, api.Key{byte(i), 60})
		for _, k := range append(m.Path().Secrets(), m.Vault().Secrets()...) {
			if slices.Contains(old, k) || i > 0 && k == (api.Key{byte(i), 0, 0, 1}) {
				t.Errorf("%x is there, still", k)
			}
		}
	}
}

// Rules: what is handed in is left as it was, spare room included, and isn't kept.
func TestHandedIn(t *testing.T) {
	secrets := []api.Key{{1}, {2}, {3}, {4}}
	a, b := member.New(1), member.New(2)
	text := publish(t, b, secrets[:2]...)
	if !slices.Equal(secrets, []api.Key{{1}, {2}, {3}, {4}}) {
		t.Errorf("the secrets are %x now", secrets)
	}
	clear(secrets)
	if got := b.Vault().Secrets(); !slices.Equal(got, []api.Key{{1}, {2}}) {
		t.Errorf("behind what was handed in was changed the secrets are %x", got)
	}
	bundles := []string{text, "spare", "room"}
	made := create(t, a, api.Key{5}, api.Key{6}, bundles[:1]...)
	if !slices.Equal(bundles, []string{text, "spare", "room"}) {
		t.Errorf("the bundles are %x now", bundles)
	}
	checkError(t, "Accept", b.Accept(made), 0)
	checkLinks(t, "both", 0, a, b)
}

// Rules: an answer is nobody else's memory.
func TestAnswersAreNew(t *testing.T) {
	m := grouped(t, 5)[2]
	before := all(m)
	p := m.Path()
	wanted := fmt.Sprintf("%x", p.Secrets())
	clear(p.Secrets())
	clear(p.Copath())
	clear(p.Publics())
	v := m.Vault()
	clear(v.Secrets())
	if all(m) != before || told(p) != told(m.Path()) {
		t.Errorf("behind answers were changed it is %s, wanted %s", all(m), before)
	}
	renew(t, m, api.Key{8})
	if after := fmt.Sprintf("%x", p.Secrets()); told(p) == told(m.Path()) || after != wanted {
		t.Errorf("behind Update a path that was answered ahead has %s, wanted %s", after, wanted)
	}
}

// Rules: the errors, too, are nobody else's.
func TestErrorsAreNew(t *testing.T) {
	var none *member.Member
	members := grouped(t, 2)
	in, out := members[0], member.New(8)
	text := renew(t, members[1].Clone(), api.Key{8})
	for _, call := range []func() error{
		func() error { _, err := none.Publish(); return err },
		func() error { _, err := out.Publish(make([]api.Key, 65)...); return err },
		func() error { _, err := in.Create(api.Key{}, api.Key{}); return err },
		func() error { _, err := out.Create(api.Key{}, api.Key{}); return err },
		func() error { _, err := out.Create(api.Key{}, api.Key{}, ""); return err },
		func() error { _, err := out.Update(api.Key{}); return err },
		func() error { return in.Accept("") },
		func() error { return out.Accept("") },
		func() error { return out.Process("") },
		func() error { return in.Process("") },
		func() error { return in.Process(turned(text, len(text)*8-1)) },
		func() error { return in.Receive("") },
		func() error { return none.Receive("") },
		func() error { return out.Leave() },
	} {
		code := fault.Code(call())
		err := call()
		for f := (*fault.Fault)(nil); errors.As(err, &f); {
			err, f.Err = f.Err, nil
		}
		if got := fault.Code(call()); got != code || code == 0 {
			t.Errorf("behind another error was changed: Code is %v, wanted %v", got, code)
		}
	}
}
