package state_test

import (
	"encoding/binary"
	"fmt"
	"math"
	"math/rand"
	"slices"
	"strings"
	"testing"

	"sapwood/api"
	"sapwood/chain"
	"sapwood/fault"
	"sapwood/member"
	"sapwood/path"
	"sapwood/state"
	"sapwood/update"
)

// checkError: a call's error is of that number (0: it has none).
func checkError(t *testing.T, what string, err error, code api.Errno) {
	t.Helper()
	if fault.Code(err) != code || (err == nil) != (code == 0) {
		t.Errorf("%s: the error is %v, wanted %v", what, err, code)
	}
}

// publish: what a member publishes, which may be.
func publish(t *testing.T, m *member.Member, secrets ...api.Key) string {
	t.Helper()
	text, err := m.Publish(secrets...)
	checkError(t, "Publish", err, 0)
	return text
}

// create: a setup, which may be.
func create(t *testing.T, m *member.Member, leaf, fresh api.Key, bundles ...string) string {
	t.Helper()
	text, err := m.Create(leaf, fresh, bundles...)
	checkError(t, "Create", err, 0)
	return text
}

// renew: an update, which may be.
func renew(t *testing.T, m *member.Member, secret api.Key) string {
	t.Helper()
	text, err := m.Update(secret)
	checkError(t, "Update", err, 0)
	return text
}

// secretOf: a member's prekey.
func secretOf(i, k int) api.Key { return api.Key{byte(i), byte(i >> 8), byte(k), 1} }

// grouped: members of the names from 10 on in one group, whose maker is the first one. All others have published some prekeys, of which one was used.
func grouped(t *testing.T, n, prekeys int) []*member.Member {
	t.Helper()
	var members []*member.Member
	var bundles []string
	for i := range n {
		m := member.New(uint32(10 + i))
		members = append(members, m)
		if i > 0 {
			var secrets []api.Key
			for k := range prekeys {
				secrets = append(secrets, secretOf(i, k))
			}
			bundles = append(bundles, publish(t, m, secrets...))
		}
	}
	text := create(t, members[0], api.Key{100}, api.Key{101}, bundles...)
	for _, m := range members[1:] {
		checkError(t, "Accept", m.Accept(text), 0)
	}
	return members
}

// fieldsOf: a member's fields, by the document's words; whether each is secret.
func fieldsOf(m *member.Member) ([]state.Field, []bool) {
	var fields []state.Field
	var secret []bool
	put := func(is bool, k api.Key, label string, parts ...any) {
		fields, secret = append(fields, state.Field{Label: fmt.Sprintf(label, parts...), Key: k}), append(secret, is)
	}
	for i, id := range m.Vault().IDs() {
		put(true, m.Vault().Secrets()[i], "prekey %d", id)
	}
	if m.In() {
		for i, k := range m.Path().Secrets() {
			put(true, k, "secret %d", i)
		}
		for i, k := range m.Path().Copath() {
			put(false, k, "copath %d", i)
		}
		put(true, m.Link().Key, "key")
		put(true, m.Link().TagKey, "tag")
		put(false, m.Link().Past, "past")
	}
	return fields, secret
}

// textOf: a member's text, by the document's words and the library's numbers.
func textOf(m *member.Member) string {
	var b []byte
	two := func(n int) { b = binary.BigEndian.AppendUint16(b, uint16(n)) }
	four := func(n uint32) { b = binary.BigEndian.AppendUint32(b, n) }
	keys := func(l ...api.Key) {
		for _, k := range l {
			b = append(b, k[:]...)
		}
	}
	four(m.Name())
	two(len(m.Vault().IDs()))
	for i, id := range m.Vault().IDs() {
		four(id)
		keys(m.Vault().Secrets()[i])
	}
	two(len(m.Vault().Used()))
	for _, id := range m.Vault().Used() {
		four(id)
	}
	if !m.In() {
		return string(append(b, 0))
	}
	b = append(b, 1)
	two(m.Path().N())
	two(m.Path().Leaf())
	keys(m.Path().Secrets()...)
	keys(m.Path().Copath()...)
	four(m.Link().Stage)
	keys(m.Link().Key, m.Link().TagKey, m.Link().Past)
	return string(b)
}

// checkState: all that is asked of a member is as the document's words say, and asking changes nothing.
func checkState(t *testing.T, what string, m *member.Member) {
	t.Helper()
	fields, secret := fieldsOf(m)
	text := textOf(m)
	var secrets []api.Key
	for i, f := range fields {
		if secret[i] {
			secrets = append(secrets, f.Key)
		}
		if !state.Holds(m, f.Key) {
			t.Errorf("%s: %s isn't held", what, f.Label)
		}
	}
	for range 2 {
		if got := state.Fields(m); !slices.Equal(got, fields) {
			t.Errorf("%s: Fields is %x, wanted %x", what, got, fields)
		}
		if got := state.Secrets(m); !slices.Equal(got, secrets) {
			t.Errorf("%s: Secrets is %x, wanted %x", what, got, secrets)
		}
		if got := state.Text(m); got != text {
			t.Errorf("%s: Text is %x, wanted %x", what, got, text)
		}
	}
	if !state.Same(m, m) || !state.Same(m, m.Clone()) || !state.Same(m.Clone(), m) {
		t.Errorf("%s: it isn't the same as its clone", what)
	}
}

// checkKept: a call has that error, and the text is as it was.
func checkKept(t *testing.T, what string, m *member.Member, call func() error, code api.Errno) {
	t.Helper()
	before, text := m.Clone(), state.Text(m)
	checkError(t, what, call(), code)
	if state.Text(m) != text || !state.Same(m, before) || code == 0 {
		t.Errorf("%s: the text was %x, and is %x", what, text, state.Text(m))
	}
}

// checkGone: none of these keys stands in the text.
func checkGone(t *testing.T, what string, m *member.Member, keys ...api.Key) {
	t.Helper()
	for i, k := range keys {
		if state.Holds(m, k) || strings.Contains(state.Text(m), string(k[:])) {
			t.Errorf("%s: the key %d, %x, is held", what, i, k)
		}
	}
}

// The example.
func TestExample(t *testing.T) {
	m := member.New(1)
	if len(state.Fields(m)) != 0 || len(state.Secrets(m)) != 0 || len(state.Text(m)) != 9 {
		t.Errorf("the fields are %v, the text %x", state.Fields(m), state.Text(m))
	}
	for _, name := range []uint32{0, 1, 256, 0x01020304, math.MaxInt32, math.MaxUint32} {
		checkState(t, "a new one", member.New(name))
	}
	if got := state.Text(member.New(0x01020304)); got != "\x01\x02\x03\x04\x00\x00\x00\x00\x00" {
		t.Errorf("the text is %x", got)
	}
}

// P23.1: a text that is written by hand, ahead of a group, in it, and behind it.
func TestByHand(t *testing.T) {
	k := func(c string) string { return strings.Repeat(c, 32) }
	key := func(c string) api.Key { return api.Key([]byte(k(c))) }
	m := member.New(0x0a0b0c0d)
	bundle := publish(t, m, key("p"), key("q"), key("r"))
	wanted := "\x0a\x0b\x0c\x0d\x00\x03\x00\x00\x00\x00" + k("p") + "\x00\x00\x00\x01" + k("q") + "\x00\x00\x00\x02" + k("r") + "\x00\x00\x00"
	if got := state.Text(m); got != wanted {
		t.Errorf("Text is %x, wanted %x", got, wanted)
	}
	if got := state.Fields(m); !slices.Equal(got, []state.Field{{"prekey 0", key("p")}, {"prekey 1", key("q")}, {"prekey 2", key("r")}}) {
		t.Errorf("Fields is %x", got)
	}
	checkError(t, "Accept", m.Accept(create(t, member.New(1), api.Key{1}, api.Key{2}, bundle)), 0)
	head := "\x0a\x0b\x0c\x0d\x00\x02\x00\x00\x00\x01" + k("q") + "\x00\x00\x00\x02" + k("r") + "\x00\x01\x00\x00\x00\x00"
	root, other, link := m.Path().Root(), m.Path().Copath()[0], m.Link()
	leaf := m.Path().Secrets()[0]
	wanted = head + "\x01\x00\x02\x00\x01" + string(leaf[:]) + string(root[:]) + string(other[:]) +
		"\x00\x00\x00\x00" + string(link.Key[:]) + string(link.TagKey[:]) + string(link.Past[:])
	if got := state.Text(m); got != wanted {
		t.Errorf("Text is %x, wanted %x", got, wanted)
	}
	if got := state.Fields(m); !slices.Equal(got, []state.Field{{"prekey 1", key("q")}, {"prekey 2", key("r")}, {"secret 0", leaf}, {"secret 1", root},
		{"copath 0", other}, {"key", link.Key}, {"tag", link.TagKey}, {"past", link.Past}}) {
		t.Errorf("Fields is %x", got)
	}
	if got := state.Secrets(m); !slices.Equal(got, []api.Key{key("q"), key("r"), leaf, root, link.Key, link.TagKey}) {
		t.Errorf("Secrets is %x", got)
	}
	checkError(t, "Leave", m.Leave(), 0)
	if got := state.Text(m); got != head+"\x00" {
		t.Errorf("Text is %x, wanted %x", got, head+"\x00")
	}
	checkState(t, "behind Leave", m)
}

// P23.1: of groups of many sizes, at each leaf, at some stages.
func TestGroups(t *testing.T) {
	for _, n := range []int{2, 3, 4, 5, 8, 17} {
		members := grouped(t, n, 2)
		for i := range 3 {
			for _, m := range members {
				checkState(t, fmt.Sprintf("%d members, stage %d, leaf %d", n, i, m.Path().Leaf()), m)
			}
			from := members[(i*5+1)%n]
			text := renew(t, from, api.Key{byte(i), 50})
			for _, m := range members {
				if m != from {
					checkError(t, "Process", m.Process(text), 0)
				}
			}
		}
	}
}

// P23.1: leaves of which the numbers need both bytes; prekeys as many as may be.
func TestGreat(t *testing.T) {
	members := grouped(t, 300, 1)
	for _, i := range []int{0, 1, 255, 256, 299} {
		checkState(t, "of 300", members[i])
	}
	if got := state.Text(members[299])[12:17]; got != "\x01\x01\x2c\x01\x2b" {
		t.Errorf("in a group of 300, at the leaf 299, stands %x", got)
	}
	m := member.New(1)
	var secrets []api.Key
	for k := range api.MaxPrekeys {
		secrets = append(secrets, secretOf(3, k))
	}
	publish(t, m, secrets...)
	checkState(t, "of 64 prekeys", m)
	if got := state.Fields(m); len(got) != 64 || got[63].Label != "prekey 63" || got[63].Key != secrets[63] || got[9].Label != "prekey 9" || got[10].Label != "prekey 10" {
		t.Errorf("the fields are %x", got)
	}
}

// P23.1: how many numbers were used, a prekey's number, and the stage need more bytes than one.
func TestLong(t *testing.T) {
	a, b := member.New(1), member.New(2)
	for i := range 260 {
		text := create(t, a, api.Key{1}, api.Key{2}, publish(t, b, secretOf(i, 1)))
		checkError(t, "Accept", b.Accept(text), 0)
		checkError(t, "Leave", a.Leave(), 0)
		if i < 259 {
			checkError(t, "Leave", b.Leave(), 0)
		}
	}
	publish(t, b, api.Key{9}, api.Key{8})
	checkState(t, "of 260 that were used", b)
	if got := state.Fields(b)[1]; got != (state.Field{Label: "prekey 261", Key: api.Key{8}}) {
		t.Errorf("the second prekey is %x", got)
	}
	for i := range 258 {
		renew(t, b, api.Key{byte(i), 3})
	}
	checkState(t, "of the stage 258", b)
	if text := state.Text(b); b.Link().Stage != 258 || text[len(text)-100:len(text)-96] != "\x00\x00\x01\x02" {
		t.Errorf("at the stage %d stands %x", b.Link().Stage, text[len(text)-100:len(text)-96])
	}
}

// P23.1: any 32 bytes of the text are held, wherever they stand; no others are.
func TestHolds(t *testing.T) {
	for _, m := range grouped(t, 5, 3) {
		text := state.Text(m)
		for i := range len(text) - 31 {
			k := api.Key([]byte(text[i : i+32]))
			if !state.Holds(m, k) {
				t.Errorf("%x, which stands at %d, isn't held", k, i)
			}
			k[i%32] ^= 1 << (i % 8)
			if state.Holds(m, k) != strings.Contains(text, string(k[:])) {
				t.Errorf("%x, which doesn't stand at %d, is held", k, i)
			}
		}
		checkGone(t, "of others", m, api.Key{}, api.Key{100, 1}, api.Key{101})
	}
	m := member.New(0)
	checkGone(t, "of nine bytes", m, api.Key{}) // whose bytes are all 0, but too few
	publish(t, m, api.Key{31: 1})
	if !state.Holds(m, api.Key{}) {
		t.Error("32 bytes of 0 ahead of a secret's last byte aren't held")
	}
}

// P23.1: two are the same, where they have the same, whatever brought it there; each thing that they have counts.
func TestSame(t *testing.T) {
	made := func(name uint32, secrets ...api.Key) *member.Member {
		m := member.New(name)
		publish(t, m, secrets...)
		return m
	}
	in := func(m *member.Member, leaf, fresh api.Key, names ...uint32) *member.Member {
		var bundles []string
		for _, name := range names {
			bundles = append(bundles, publish(t, made(name, api.Key{5})))
		}
		create(t, m, leaf, fresh, bundles...)
		return m
	}
	at := func(m *member.Member, secrets ...api.Key) *member.Member {
		for _, s := range secrets {
			renew(t, m, s)
		}
		return m
	}
	used := func(from, n int) *member.Member {
		m := member.New(1)
		for i := range from + n {
			text := create(t, member.New(2), api.Key{1}, api.Key{2}, publish(t, m, secretOf(1, i)))
			checkError(t, "Accept", m.Accept(text), 0)
			checkError(t, "Leave", m.Leave(), 0)
		}
		return m
	}
	// (The lowest bits of a secret's first byte would play no part.)
	kinds := []func() *member.Member{
		func() *member.Member { return nil },
		func() *member.Member { return made(1) },
		func() *member.Member { return made(2) },
		func() *member.Member { return made(1, api.Key{9: 1}) },
		func() *member.Member { return made(1, api.Key{9: 2}) },
		func() *member.Member { return made(1, api.Key{9: 1}, api.Key{9: 2}) },
		func() *member.Member { return made(1, api.Key{9: 2}, api.Key{9: 1}) },
		func() *member.Member { return used(0, 1) },
		func() *member.Member { return used(0, 2) },
		func() *member.Member { return in(made(1), api.Key{9: 1}, api.Key{9: 2}, 7) },
		func() *member.Member { return in(made(1), api.Key{9: 3}, api.Key{9: 2}, 7) },
		func() *member.Member { return in(made(1), api.Key{9: 1}, api.Key{9: 3}, 7) },
		func() *member.Member { return in(made(1), api.Key{9: 1}, api.Key{9: 2}, 8) },
		func() *member.Member { return in(made(1), api.Key{9: 1}, api.Key{9: 2}, 7, 8) },
		func() *member.Member { return in(made(1, api.Key{9: 1}), api.Key{9: 1}, api.Key{9: 2}, 7) },
		func() *member.Member { return at(in(made(1), api.Key{9: 1}, api.Key{9: 2}, 7), api.Key{9: 1}) },
		func() *member.Member {
			return at(in(made(1), api.Key{9: 1}, api.Key{9: 2}, 7), api.Key{9: 1}, api.Key{9: 1})
		},
		func() *member.Member { return at(in(made(1), api.Key{9: 1}, api.Key{9: 2}, 7), api.Key{9: 4}) },
		func() *member.Member {
			return at(in(made(1), api.Key{9: 1}, api.Key{9: 2}, 7), api.Key{9: 4}, api.Key{9: 1})
		},
	}
	for i, one := range kinds {
		for k, other := range kinds {
			if got := state.Same(one(), other()); got != (i == k) {
				t.Errorf("the kinds %d and %d: Same is %v", i, k, got)
			}
		}
	}
	left := in(made(1), api.Key{1}, api.Key{2}, 7)
	checkError(t, "Leave", left.Leave(), 0)
	if !state.Same(left, made(1)) {
		t.Error("who has left isn't the same as who never was in a group")
	}
}

// P23.1: of nil none.
func TestNil(t *testing.T) {
	var m *member.Member
	if len(state.Fields(m)) != 0 || len(state.Secrets(m)) != 0 || state.Text(m) != "" {
		t.Errorf("of nil there are %x, %x, %x", state.Fields(m), state.Secrets(m), state.Text(m))
	}
	if state.Holds(m, api.Key{}) || state.Holds(m, api.Key{1}) {
		t.Error("nil holds a key")
	}
	if !state.Same(m, nil) || state.Same(m, member.New(0)) || state.Same(member.New(0), m) {
		t.Error("nil isn't the same as nil, or is as another one")
	}
}

// P23.2: where a call has an error the text is as it was.
func TestErrors(t *testing.T) {
	members := grouped(t, 3, 2)
	in, out := members[1], member.New(50)
	publish(t, out, api.Key{60})
	late := renew(t, members[2].Clone(), api.Key{61})
	text := renew(t, members[2], api.Key{62})
	own := renew(t, in.Clone(), api.Key{63})
	setup := create(t, member.New(51), api.Key{64}, api.Key{65}, publish(t, out))
	shorn := func(s string) string { return s[:len(s)-1] }
	turned := func(s string) string { return shorn(s) + string([]byte{s[len(s)-1] ^ 1}) }
	publishing := func(m *member.Member, n int) func() error {
		return func() error { _, err := m.Publish(make([]api.Key, n)...); return err }
	}
	creating := func(m *member.Member, bundles ...string) func() error {
		return func() error { _, err := m.Create(api.Key{1}, api.Key{2}, bundles...); return err }
	}
	receiving := func(m *member.Member, s string) func() error { return func() error { return m.Receive(s) } }
	checkKept(t, "Publish of too many", in, publishing(in, 64), api.ErrMany)
	checkKept(t, "Publish of too many", out, publishing(out, 64), api.ErrMany)
	checkKept(t, "Create in a group", in, creating(in, publish(t, out)), api.ErrState)
	checkKept(t, "Create of none", out, creating(out), api.ErrSize)
	checkKept(t, "Create of itself", out, creating(out, publish(t, out)), api.ErrName)
	checkKept(t, "Accept in a group", in, receiving(in, setup), api.ErrState)
	checkKept(t, "Accept of half a setup", out, receiving(out, shorn(setup)), api.ErrTruncated)
	checkKept(t, "Accept with another tag", out, receiving(out, turned(setup)), api.ErrMAC)
	checkKept(t, "Update in no group", out, func() error { _, err := out.Update(api.Key{1}); return err }, api.ErrState)
	checkKept(t, "Process in no group", out, receiving(out, text), api.ErrState)
	checkKept(t, "Process with another tag", in, receiving(in, turned(text)), api.ErrMAC)
	checkKept(t, "Process of its own", in, receiving(in, own), api.ErrEcho)
	checkKept(t, "Receive of nothing", in, receiving(in, ""), api.ErrKind)
	checkKept(t, "Leave in no group", out, out.Leave, api.ErrState)
	checkError(t, "Receive", in.Receive(text), 0)
	checkKept(t, "Process of another one's", in, receiving(in, late), api.ErrStage)
	checkKept(t, "Process once more", in, receiving(in, text), api.ErrStage)
	checkError(t, "Receive", out.Receive(setup), 0)
	checkError(t, "Leave", out.Leave(), 0)
	checkKept(t, "Accept once more", out, receiving(out, setup), api.ErrUsed)
	checkState(t, "behind all errors", in)
	checkState(t, "behind all errors", out)
}

// held: all keys that hang on a path and a link, secret or not.
func held(p path.Path, l chain.Link) []api.Key {
	return append(append(p.Secrets(), p.Copath()...), l.Key, l.TagKey, l.Past)
}

// P23.2: a prekey that was used, and what was superseded, isn't there any more.
func TestGone(t *testing.T) {
	members := grouped(t, 4, 2)
	for i, m := range members[1:] {
		checkGone(t, "behind Accept", m, secretOf(i+1, 0), api.Key{100}, api.Key{101})
		if !state.Holds(m, secretOf(i+1, 1)) {
			t.Error("a prekey that wasn't used isn't held")
		}
	}
	checkGone(t, "the fresh secret", members[0], api.Key{101})
	for round := range 4 {
		from := members[round]
		was := from.Clone()
		text := renew(t, from, api.Key{70, byte(round)})
		u, err := update.Parse(text)
		checkError(t, "Parse", err, 0)
		// What renews its leaf keeps only the copath; it has no need of the public keys that it told.
		checkGone(t, "behind Update", from, was.Path().Secrets()...)
		checkGone(t, "behind Update", from, was.Link().Key, was.Link().TagKey, was.Link().Past, u.Tag)
		checkGone(t, "behind Update", from, u.Publics...)
		for _, m := range members {
			if m == from {
				continue
			}
			was := m.Clone()
			checkError(t, "Process", m.Process(text), 0)
			now := held(m.Path(), m.Link())
			for _, k := range held(was.Path(), was.Link()) {
				if !slices.Contains(now, k) {
					checkGone(t, "behind Process", m, k)
				}
			}
			checkGone(t, "behind Process", m, was.Path().Root(), was.Link().Key, was.Link().TagKey, was.Link().Past, u.Tag)
		}
	}
	for _, m := range members {
		was := m.Clone()
		checkError(t, "Leave", m.Leave(), 0)
		checkGone(t, "behind Leave", m, held(was.Path(), was.Link())...)
	}
}

// P23.2: what is put again is there again.
func TestAgain(t *testing.T) {
	a, b := member.New(1), member.New(2)
	text := create(t, a, api.Key{30}, api.Key{31}, publish(t, b, api.Key{20}))
	checkError(t, "Accept", b.Accept(text), 0)
	checkGone(t, "what was used", b, api.Key{20})
	publish(t, b, api.Key{20})
	renew(t, a, api.Key{40})
	checkGone(t, "what was superseded", a, api.Key{30})
	renew(t, a, api.Key{30})
	if !state.Holds(b, api.Key{20}) || !state.Holds(a, api.Key{30}) {
		t.Error("what was put again isn't held")
	}
	checkState(t, "the maker", a)
	checkState(t, "the other one", b)
}

// step: one thing that three members do, any thing.
func step(random *rand.Rand, members []*member.Member, sent []string) []string {
	m := members[random.Intn(len(members))]
	text := ""
	var err error
	switch random.Intn(6) {
	case 0:
		text, err = m.Publish(api.Key{byte(random.Int()), 1})
	case 1:
		if len(sent) > 0 {
			text, err = m.Create(api.Key{byte(random.Int()), 2}, api.Key{byte(random.Int()), 3}, sent[random.Intn(len(sent))])
		}
	case 2:
		text, err = m.Update(api.Key{byte(random.Int()), 4})
	case 3, 4:
		if len(sent) > 0 {
			err = m.Receive(sent[len(sent)-1-random.Intn(min(len(sent), 4))])
		}
	default:
		if random.Intn(4) == 0 {
			err = m.Leave()
		}
	}
	if err == nil && text != "" {
		sent = append(sent, text)
	}
	return sent
}

// P23.1, P23.2: whatever is done, all that is asked is as the document's words say.
func TestAny(t *testing.T) {
	random := rand.New(rand.NewSource(23))
	for range 6 {
		members := []*member.Member{member.New(1), member.New(2), member.New(3)}
		var sent []string
		for range 60 {
			sent = step(random, members, sent)
			for i, m := range members {
				checkState(t, "any", m)
				for _, other := range members[:i] {
					if state.Same(m, other) || state.Same(other, m) {
						t.Error("two of other names are the same")
					}
				}
			}
		}
	}
}

// An answer is new memory: neither the member nor another answer can be changed by it.
func TestAnswersAreNew(t *testing.T) {
	m := grouped(t, 3, 3)[1]
	text := state.Text(m)
	fields, secrets := state.Fields(m), state.Secrets(m)
	wanted := slices.Clone(fields)
	clear(fields[:cap(fields)])
	clear(secrets[:cap(secrets)])
	if got := state.Fields(m); !slices.Equal(got, wanted) || state.Text(m) != text {
		t.Errorf("behind a change of an answer Fields is %x, the text %x", got, state.Text(m))
	}
	checkState(t, "behind a change of answers", m)
}
