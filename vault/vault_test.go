package vault_test

import (
	"crypto/ecdh"
	"errors"
	"math"
	"math/rand"
	"slices"
	"testing"

	"sapwood/api"
	"sapwood/bundle"
	"sapwood/fault"
	"sapwood/vault"
)

// anyKey: a key of any bytes.
func anyKey(random *rand.Rand) api.Key {
	var k api.Key
	random.Read(k[:])
	return k
}

// model: what a vault is by the document's words: a list of all numbers, in the order in which they came.
type model []prekey

// prekey: a number, its secret, and whether it was used.
type prekey struct {
	id     uint32
	secret api.Key
	used   bool
}

// sorted: those that were used, or weren't, by rising numbers.
func (l model) sorted(used bool) model {
	var some model
	for _, p := range l {
		if p.used == used {
			some = append(some, p)
		}
	}
	slices.SortFunc(some, func(a, b prekey) int { return int(int64(a.id) - int64(b.id)) })
	return some
}

// ids: the numbers.
func (l model) ids() []uint32 {
	var ids []uint32
	for _, p := range l {
		ids = append(ids, p.id)
	}
	return ids
}

// find: a number's place; -1 of none.
func (l model) find(id uint32) int {
	return slices.IndexFunc(l, func(p prekey) bool { return p.id == id })
}

// next: the number that is next.
func (l model) next() uint32 {
	var next uint64
	for _, p := range l {
		next = max(next, uint64(p.id)+1)
	}
	return uint32(next)
}

// addCode: what Add should say.
func (l model) addCode(id uint32) api.Errno {
	switch {
	case l.find(id) >= 0:
		return api.ErrForm
	case len(l.sorted(false)) == 64:
		return api.ErrMany
	}
	return 0
}

// peek: what Peek should answer.
func (l model) peek(id uint32) (api.Key, api.Errno) {
	place := l.find(id)
	switch {
	case place < 0:
		return api.Key{}, api.ErrUnknown
	case l[place].used:
		return api.Key{}, api.ErrUsed
	}
	return l[place].secret, 0
}

// filled: a vault of that many prekeys, numbered from that on.
func filled(t *testing.T, from uint32, n int) (*vault.Vault, model) {
	t.Helper()
	v, l := vault.New(), model{}
	for i := range uint32(n) {
		l = added(t, v, l, from+i, api.Key{byte(i), 1})
	}
	return v, l
}

// added: Add answers what it should; the model behind it.
func added(t *testing.T, v *vault.Vault, l model, id uint32, secret api.Key) model {
	t.Helper()
	code := l.addCode(id)
	checkError(t, "Add", v.Add(id, secret), code)
	if code == 0 {
		l = append(slices.Clone(l), prekey{id: id, secret: secret})
	}
	return l
}

// taken: Peek and Take answer what they should; the model behind them.
func taken(t *testing.T, v *vault.Vault, l model, id uint32) model {
	t.Helper()
	wanted, code := l.peek(id)
	for range 2 {
		checkSecret(t, "Peek", v.Peek, id, wanted, code)
	}
	checkSecret(t, "Take", v.Take, id, wanted, code)
	if code == 0 {
		l = slices.Clone(l)
		l[l.find(id)].used = true
	}
	return l
}

// checkSecret: Peek, or Take, answers that.
func checkSecret(t *testing.T, what string, call func(uint32) (api.Key, error), id uint32, wanted api.Key, code api.Errno) {
	t.Helper()
	got, err := call(id)
	checkError(t, what, err, code)
	if got != wanted {
		t.Errorf("%s of %d is %x, wanted %x", what, id, got, wanted)
	}
}

// checkError: a call's error is of that number (0: it has none).
func checkError(t *testing.T, what string, err error, code api.Errno) {
	t.Helper()
	if fault.Code(err) != code || (err == nil) != (code == 0) {
		t.Errorf("%s: the error is %v, wanted %v", what, err, code)
	}
}

// check: a vault has what the model has. (But for its bundle.)
func check(t *testing.T, what string, v *vault.Vault, l model) {
	t.Helper()
	there := l.sorted(false)
	var secrets []api.Key
	for _, p := range there {
		secrets = append(secrets, p.secret)
	}
	if got := v.IDs(); !slices.Equal(got, there.ids()) {
		t.Errorf("%s: IDs is %v, wanted %v", what, got, there.ids())
	}
	if got := v.Secrets(); !slices.Equal(got, secrets) {
		t.Errorf("%s: Secrets is %x, wanted %x", what, got, secrets)
	}
	if got, wanted := v.Used(), l.sorted(true).ids(); !slices.Equal(got, wanted) {
		t.Errorf("%s: Used is %v, wanted %v", what, got, wanted)
	}
	if got := v.Next(); got != l.next() {
		t.Errorf("%s: Next is %d, wanted %d", what, got, l.next())
	}
}

// checkBundle: a vault's bundle is what the model has, with public keys by the library's X25519.
func checkBundle(t *testing.T, what string, v *vault.Vault, name uint32, l model) {
	t.Helper()
	var keys []bundle.Prekey
	for _, p := range l.sorted(false) {
		secret, err := ecdh.X25519().NewPrivateKey(p.secret[:])
		if err != nil {
			t.Fatal(err)
		}
		keys = append(keys, bundle.Prekey{ID: p.id, Public: api.Key(secret.PublicKey().Bytes())})
	}
	b := v.Bundle(name)
	if b.Name != name || !slices.Equal(b.Keys, keys) {
		t.Errorf("%s: Bundle is %v, wanted %d and %v", what, b, name, keys)
	}
	checkError(t, what+": its bundle's Check", b.Check(), 0)
}

// The example.
func TestExample(t *testing.T) {
	v := vault.New()
	checkError(t, "Add", v.Add(0, api.Key{5}), 0)
	checkSecret(t, "Take", v.Take, 0, api.Key{5}, 0)
	checkSecret(t, "Take", v.Take, 0, api.Key{}, api.ErrUsed)
}

// P21.1: a new one has nothing.
func TestNew(t *testing.T) {
	v := vault.New()
	check(t, "a new one", v, nil)
	checkBundle(t, "a new one", v, 7, nil)
	taken(t, v, nil, 0)
	check(t, "another one", vault.New(), nil)
}

// P21.1: Add of a number that is there, or was used, whatever the secret is.
func TestAddTwice(t *testing.T) {
	v, l := filled(t, 3, 4)
	for _, id := range []uint32{3, 4, 5, 6} {
		for _, secret := range []api.Key{{}, {byte(id - 3), 1}, {9}} {
			l = added(t, v, l, id, secret)
			check(t, "a number that is there", v, l)
		}
		l = taken(t, v, l, id)
		for _, secret := range []api.Key{{}, {byte(id - 3), 1}, {9}} {
			l = added(t, v, l, id, secret)
			check(t, "a number that was used", v, l)
		}
	}
}

// P21.1: Add where there are 64; those that were used don't count; a number that is there is told first.
func TestAddMany(t *testing.T) {
	v, l := filled(t, 0, 64)
	check(t, "of 64", v, l)
	for _, id := range []uint32{64, 65, 1000, math.MaxUint32, 0, 63} {
		l = added(t, v, l, id, api.Key{7})
		check(t, "of 64", v, l)
	}
	for id := range uint32(100) {
		l = taken(t, v, l, id)
		l = added(t, v, l, id, api.Key{8})
		l = added(t, v, l, id+64, api.Key{byte(id), 2})
		l = added(t, v, l, id, api.Key{8})
		l = added(t, v, l, id+65, api.Key{8})
		check(t, "of 64 again", v, l)
	}
	checkBundle(t, "of 64", v, 1, l)
}

// P21.1: a secret may be zero, and stand there twice.
func TestAnySecret(t *testing.T) {
	v, l := vault.New(), model{}
	for i, secret := range []api.Key{{}, {1}, {}, {1}} {
		l = added(t, v, l, uint32(i), secret)
		l = added(t, v, l, uint32(i), secret)
	}
	check(t, "zero secrets", v, l)
	checkBundle(t, "zero secrets", v, 0, l)
	l = taken(t, v, l, 2)
	l = taken(t, v, l, 2)
	l = taken(t, v, l, 0)
	l = added(t, v, l, 0, api.Key{})
	check(t, "zero secrets", v, l)
}

// P21.1: one more than the greatest number, whether that is there or was used; modulo 2^32.
func TestNext(t *testing.T) {
	for _, ids := range [][]uint32{{0}, {5}, {5, 2}, {2, 5}, {math.MaxInt32}, {math.MaxUint32 - 1, 0}, {math.MaxUint32}, {math.MaxUint32, 7}, {7, math.MaxUint32, 0}} {
		v, l := vault.New(), model{}
		for _, id := range ids {
			l = added(t, v, l, id, api.Key{1})
			check(t, "one more", v, l)
		}
		for _, id := range ids {
			l = taken(t, v, l, id)
			check(t, "one was used", v, l)
		}
		l = added(t, v, l, v.Next(), api.Key{2}) // refused, where the greatest number came round to one that was used
		check(t, "the next one", v, l)
	}
}

// P21.1: all that are there, by rising numbers, under any name.
func TestBundle(t *testing.T) {
	v, l := vault.New(), model{}
	for i, id := range []uint32{9, 3, math.MaxUint32, 0, 1 << 31, 4} {
		l = added(t, v, l, id, api.Key{byte(i), 3})
		checkBundle(t, "one more", v, uint32(i)*0x30000001, l)
	}
	for _, id := range []uint32{3, 3, 0, math.MaxUint32, 9, 4, 1 << 31, 9} {
		l = taken(t, v, l, id)
		checkBundle(t, "one was used", v, math.MaxUint32, l)
	}
	check(t, "behind all", v, l)
}

// P21.2: Peek takes nothing, Take does, once; of numbers that never were there ErrUnknown, ahead and behind.
func TestTake(t *testing.T) {
	v, l := filled(t, 10, 3)
	for _, id := range []uint32{9, 13, 0, math.MaxUint32, 11, 11, 13, 10, 9, 11, 12, 10, 12, 13} {
		l = taken(t, v, l, id)
		check(t, "behind Take", v, l)
	}
}

// P21.3: whatever is done, no prekey is taken twice, and no secret that was taken is there.
func TestAny(t *testing.T) {
	random := rand.New(rand.NewSource(1))
	for range 30 {
		v, l := vault.New(), model{}
		span := []int{4, 100, 300}[random.Intn(3)]
		got := map[api.Key]bool{}
		for range 400 {
			id := uint32(random.Intn(span))
			if random.Intn(3) > 0 {
				l = added(t, v, l, id, anyKey(random))
			} else if secret, code := l.peek(id); code == 0 {
				if got[secret] {
					t.Errorf("%x is taken twice", secret)
				}
				got[secret] = true
				l = taken(t, v, l, id)
			} else {
				l = taken(t, v, l, id)
			}
			check(t, "any", v, l)
			for _, secret := range v.Secrets() {
				if got[secret] {
					t.Errorf("%x was taken, and is there", secret)
				}
			}
		}
	}
}

// P21.1: a clone has the same, and nothing that is done with one is to be seen in the other one.
func TestClone(t *testing.T) {
	v, l := filled(t, 0, 5)
	l = taken(t, v, l, 2)
	w, k := v.Clone(), l
	check(t, "a clone", w, l)
	checkBundle(t, "a clone", w, 3, l)
	k = added(t, w, k, 9, api.Key{9})
	k = taken(t, w, k, 0)
	check(t, "the first one", v, l)
	check(t, "the clone", w, k)
	l = added(t, v, l, 9, api.Key{8})
	l = taken(t, v, l, 1)
	l = taken(t, v, l, 9)
	check(t, "the first one", v, l)
	check(t, "the clone", w, k)
	x := vault.New().Clone()
	check(t, "a new one's clone", x, nil)
	check(t, "a new one's clone", x, added(t, x, nil, 1, api.Key{1}))
}

// P21.2: of nil.
func TestNil(t *testing.T) {
	var v *vault.Vault
	if v.Clone() != nil {
		t.Error("the clone of nil isn't nil")
	}
	checkError(t, "Add", v.Add(0, api.Key{1}), api.ErrNil)
	checkSecret(t, "Peek", v.Peek, 0, api.Key{}, api.ErrNil)
	checkSecret(t, "Take", v.Take, 0, api.Key{}, api.ErrNil)
	check(t, "nil", v, nil)
	if b := v.Bundle(9); b.Name != 0 || len(b.Keys) != 0 {
		t.Errorf("the bundle of nil is %v", b)
	}
}

// Rules: an answer is nobody else's memory.
func TestAnswersAreNew(t *testing.T) {
	v, l := filled(t, 0, 6)
	l = taken(t, v, l, 3)
	l = taken(t, v, l, 5)
	ids, secrets, used, b := v.IDs(), v.Secrets(), v.Used(), v.Bundle(1)
	clear(ids[:cap(ids)])
	clear(secrets[:cap(secrets)])
	clear(used[:cap(used)])
	clear(b.Keys[:cap(b.Keys)])
	check(t, "behind answers were changed", v, l)
	checkBundle(t, "behind answers were changed", v, 1, l)
}

// Rules: the errors, too, are nobody else's.
func TestErrorsAreNew(t *testing.T) {
	var none *vault.Vault
	full, _ := filled(t, 0, 64)
	peek := func(v *vault.Vault, id uint32) func() error {
		return func() error { _, err := v.Peek(id); return err }
	}
	take := func(v *vault.Vault, id uint32) func() error {
		return func() error { _, err := v.Take(id); return err }
	}
	add := func(v *vault.Vault, id uint32) func() error {
		return func() error { return v.Add(id, api.Key{}) }
	}
	few, l := filled(t, 0, 1)
	taken(t, few, l, 0)
	for _, call := range []func() error{add(none, 0), add(full, 0), add(full, 64), add(few, 0), peek(none, 0), peek(few, 0), peek(few, 1), take(none, 0), take(few, 0), take(few, 1)} {
		code := fault.Code(call())
		err := call()
		for f := (*fault.Fault)(nil); errors.As(err, &f); {
			err, f.Err = f.Err, nil
		}
		if got := fault.Code(call()); got != code || code == 0 {
			t.Errorf("behind another error was changed: Code is %v, wanted %v", got, code)
		}
	}
}
