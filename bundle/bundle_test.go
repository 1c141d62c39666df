package bundle_test

import (
	"encoding/binary"
	"errors"
	"math"
	"math/rand"
	"slices"
	"testing"

	"sapwood/api"
	"sapwood/bundle"
	"sapwood/codec"
	"sapwood/fault"
)

// anyBundle: one of so many prekeys, each of another number.
func anyBundle(random *rand.Rand, n int) bundle.Bundle {
	b := bundle.Bundle{Name: random.Uint32()}
	first := random.Uint32()
	for i := range uint32(n) {
		k := bundle.Prekey{ID: first + i*0x01020305} // also beyond the greatest number, and from 0 on
		random.Read(k.Public[:])
		b.Keys = append(b.Keys, k)
	}
	return b
}

// bytesOf: a bundle's bytes, by the document's words and the library, whether it may be or not.
func bytesOf(b bundle.Bundle) string {
	text := binary.BigEndian.AppendUint32([]byte{1, 1}, b.Name)
	text = binary.BigEndian.AppendUint16(text, uint16(len(b.Keys)))
	for _, k := range b.Keys {
		text = append(binary.BigEndian.AppendUint32(text, k.ID), k.Public[:]...)
	}
	return string(text)
}

// turned: a text with another byte in one place.
func turned(text string, place int, to byte) string {
	b := []byte(text)
	b[place] = to
	return string(b)
}

// same: have two bundles the same name and prekeys?
func same(a, b bundle.Bundle) bool {
	return a.Name == b.Name && slices.Equal(a.Keys, b.Keys)
}

// checkError: a call's error is of that number (0: it has none).
func checkError(t *testing.T, what string, err error, code api.Errno) {
	t.Helper()
	if fault.Code(err) != code || (err == nil) != (code == 0) {
		t.Errorf("%s: the error is %v, wanted %v", what, err, code)
	}
}

// checkBundle: Check and Write answer that error, and Write these bytes.
func checkBundle(t *testing.T, what string, b bundle.Bundle, wanted string, code api.Errno) {
	t.Helper()
	before := slices.Clone(b.Keys)
	checkError(t, what+": Check", b.Check(), code)
	text, err := b.Write()
	checkError(t, what+": Write", err, code)
	if text != wanted {
		t.Errorf("%s: Write is %.80x, wanted %.80x", what, text, wanted)
	}
	if !slices.Equal(b.Keys, before) {
		t.Errorf("%s: the bundle was changed", what)
	}
}

// checkParse: Parse answers that bundle, and that error.
func checkParse(t *testing.T, what, text string, wanted bundle.Bundle, code api.Errno) {
	t.Helper()
	b, err := bundle.Parse(text)
	checkError(t, what+": Parse", err, code)
	if !same(b, wanted) {
		t.Errorf("%s: Parse is %v, wanted %v", what, b, wanted)
	}
}

// checkRefused: Parse answers that error, and nothing beside.
func checkRefused(t *testing.T, what, text string, code api.Errno) {
	t.Helper()
	checkParse(t, what, text, bundle.Bundle{}, code)
}

// checkFind: Find answers that.
func checkFind(t *testing.T, what string, b bundle.Bundle, id uint32, wanted api.Key, is bool) {
	t.Helper()
	k, ok := b.Find(id)
	if k != wanted || ok != is {
		t.Errorf("%s: Find of %d is %x, %v, wanted %x, %v", what, id, k, ok, wanted, is)
	}
}

// The example.
func TestExample(t *testing.T) {
	const text = "\x01\x01\x00\x00\x00\x07\x00\x00"
	checkBundle(t, "the example", bundle.Bundle{Name: 7}, text, 0)
	checkParse(t, "the example", text, bundle.Bundle{Name: 7}, 0)
}

// Words: the kinds of messages.
func TestKinds(t *testing.T) {
	if bundle.Kind != 1 || bundle.Setup != 2 || bundle.Update != 3 {
		t.Error("the kinds are others")
	}
}

// P17.1: the bytes of bundles of all sizes that may be.
// P17.3: what is written is read as it was.
func TestWrite(t *testing.T) {
	random := rand.New(rand.NewSource(1))
	for n := range 65 {
		b := anyBundle(random, n)
		checkBundle(t, "a bundle", b, bytesOf(b), 0)
		checkParse(t, "a bundle", bytesOf(b), b, 0)
	}
	for _, n := range []uint32{0, 1, 255, 256, 0x01020304, math.MaxInt32, math.MaxInt32 + 1, math.MaxUint32} {
		b := bundle.Bundle{Name: n, Keys: []bundle.Prekey{{ID: ^n}, {ID: n, Public: api.Key{1, 31: 2}}}}
		checkBundle(t, "a name at a bound", b, bytesOf(b), 0)
		checkParse(t, "a name at a bound", bytesOf(b), b, 0)
	}
}

// P17.1: an empty list is as none.
func TestEmpty(t *testing.T) {
	checkBundle(t, "zero", bundle.Bundle{}, "\x01\x01\x00\x00\x00\x00\x00\x00", 0)
	checkBundle(t, "an empty list", bundle.Bundle{Keys: []bundle.Prekey{}}, "\x01\x01\x00\x00\x00\x00\x00\x00", 0)
	checkFind(t, "zero", bundle.Bundle{}, 0, api.Key{}, false)
	checkFind(t, "a name alone", bundle.Bundle{Name: 7}, 7, api.Key{}, false)
}

// P17.1: more than 64 prekeys are too many, also where a number stands there twice.
func TestTooMany(t *testing.T) {
	random := rand.New(rand.NewSource(2))
	for _, n := range []int{65, 66, 128, 256, 65535, 65536, 65600} {
		b := anyBundle(random, n)
		checkBundle(t, "too many", b, "", api.ErrMany)
		b.Keys[n-1] = b.Keys[0]
		checkBundle(t, "too many, and one twice", b, "", api.ErrMany)
		checkFind(t, "too many", b, b.Keys[n/2].ID, b.Keys[n/2].Public, true)
	}
}

// P17.1: a number that stands there twice, wherever, and whatever its keys are.
func TestTwice(t *testing.T) {
	random := rand.New(rand.NewSource(3))
	for _, n := range []int{2, 3, 5, 64} {
		for i := range n {
			for j := range i {
				b := anyBundle(random, n)
				b.Keys[i].ID = b.Keys[j].ID
				checkBundle(t, "twice", b, "", api.ErrForm)
				checkFind(t, "twice", b, b.Keys[i].ID, b.Keys[j].Public, true)
				checkRefused(t, "twice", bytesOf(b), api.ErrForm)
			}
		}
	}
	b := bundle.Bundle{Keys: []bundle.Prekey{{}, {}}}
	checkBundle(t, "0 twice", b, "", api.ErrForm)
	b = anyBundle(random, 9)
	for i := range b.Keys {
		b.Keys[i].Public = api.Key{5} // one key of many numbers is no fault
	}
	b.Name = b.Keys[4].ID
	checkBundle(t, "one key of many numbers", b, bytesOf(b), 0)
	checkParse(t, "one key of many numbers", bytesOf(b), b, 0)
}

// P17.1: Find finds the first one of each number that is there, and no other.
func TestFind(t *testing.T) {
	random := rand.New(rand.NewSource(4))
	for _, n := range []int{1, 2, 3, 64, 200} {
		b := anyBundle(random, n)
		before := slices.Clone(b.Keys)
		for _, k := range b.Keys {
			checkFind(t, "a number that is there", b, k.ID, k.Public, true)
			if i := slices.IndexFunc(b.Keys, func(o bundle.Prekey) bool { return o.ID == k.ID+1 }); i < 0 {
				checkFind(t, "a number that isn't there", b, k.ID+1, api.Key{}, false)
			}
		}
		if !slices.Equal(b.Keys, before) {
			t.Error("Find changed the bundle")
		}
	}
	b := bundle.Bundle{Keys: []bundle.Prekey{{7, api.Key{1}}, {8, api.Key{2}}, {7, api.Key{3}}, {8, api.Key{}}, {0, api.Key{}}, {7, api.Key{4}}}}
	checkFind(t, "the first of three", b, 7, api.Key{1}, true)
	checkFind(t, "the first of two", b, 8, api.Key{2}, true)
	checkFind(t, "the zero number, and key", b, 0, api.Key{}, true)
	checkFind(t, "none", b, 9, api.Key{}, false)
}

// P17.2: cut anywhere it is truncated, whatever stands in what is there.
func TestTruncated(t *testing.T) {
	random := rand.New(rand.NewSource(5))
	b := anyBundle(random, 3)
	b.Keys[2].ID = b.Keys[0].ID // ErrForm were later
	text := bytesOf(b)
	for n := range len(text) {
		checkRefused(t, "cut", text[:n], api.ErrTruncated)
	}
	for n := range 8 {
		checkRefused(t, "cut ahead of the prekeys", "\x02\x02\x00\x00\x00\x00\xff\xff"[:n], api.ErrTruncated)
		checkRefused(t, "cut ahead of the prekeys", "\x01\x02\x00\x00\x00\x00\xff\xff"[:n], api.ErrTruncated)
		checkRefused(t, "cut ahead of the prekeys", "\x01\x01\x00\x00\x00\x00\xff\xff"[:n], api.ErrTruncated)
	}
	for _, n := range []int{1, 2, 63, 64} {
		text := bytesOf(anyBundle(random, n))
		for _, less := range []int{1, 31, 32, 33, 35, 36} {
			checkRefused(t, "cut", text[:len(text)-less], api.ErrTruncated)
		}
	}
}

// P17.2: all other versions, and all other kinds.
func TestVersionAndKind(t *testing.T) {
	text := bytesOf(anyBundle(rand.New(rand.NewSource(6)), 2))
	for n := range 256 {
		if n != 1 {
			checkRefused(t, "another version", turned(text, 0, byte(n)), api.ErrVersion)
			checkRefused(t, "another kind", turned(text, 1, byte(n)), api.ErrKind)
			checkRefused(t, "another version and kind", turned(turned(text, 0, byte(n)), 1, byte(n)), api.ErrVersion)
		}
	}
}

// P17.2: there are to be more than 64 prekeys, and are so many, or fewer, or none.
func TestParseTooMany(t *testing.T) {
	random := rand.New(rand.NewSource(7))
	for _, n := range []int{65, 66, 255, 256, 257, 320, 32768, 65535} {
		text := bytesOf(anyBundle(random, n))
		checkRefused(t, "too many", text, api.ErrMany)
		checkRefused(t, "too many, of which not all are there", text[:len(text)-1], api.ErrMany)
		checkRefused(t, "too many, of which none is there", text[:8], api.ErrMany)
		checkRefused(t, "too many, and a byte", text+"x", api.ErrMany)
	}
}

// P17.2: bytes behind.
func TestTrailing(t *testing.T) {
	random := rand.New(rand.NewSource(8))
	for _, n := range []int{0, 1, 2, 63, 64} {
		b := anyBundle(random, n)
		for _, more := range []int{1, 35, 36, 37, 1 << 17} {
			checkRefused(t, "bytes behind", bytesOf(b)+string(make([]byte, more)), api.ErrTrailing)
		}
		checkRefused(t, "one bundle behind the other", bytesOf(b)+bytesOf(b), api.ErrTrailing)
	}
}

// P17.2: of several errors the one that is named first.
func TestOrder(t *testing.T) {
	b := anyBundle(rand.New(rand.NewSource(9)), 4)
	b.Keys[3].ID = b.Keys[1].ID
	for faults := range 32 {
		text, code := bytesOf(b), api.ErrForm
		cut, more, many, kind, version := faults&1 != 0, faults&2 != 0, faults&4 != 0, faults&8 != 0, faults&16 != 0
		if more {
			text, code = text+"xy", api.ErrTrailing
		}
		if cut {
			text, code = bytesOf(b)[:len(bytesOf(b))-1], api.ErrTruncated
		}
		if many {
			text, code = turned(text, 6, 1), api.ErrMany
		}
		if kind {
			text, code = turned(text, 1, 3), api.ErrKind
		}
		if version {
			text, code = turned(text, 0, 0), api.ErrVersion
		}
		checkRefused(t, "several errors", text, code)
	}
}

// P17.3: what is read would be written so: whatever one byte is turned to.
func TestReadIsWritten(t *testing.T) {
	random := rand.New(rand.NewSource(10))
	text := bytesOf(anyBundle(random, 2))
	for place := range text {
		for to := range 256 {
			s := turned(text, place, byte(to))
			b, err := bundle.Parse(s)
			if err == nil {
				checkBundle(t, "what was read", b, s, 0)
			} else if !same(b, bundle.Bundle{}) {
				t.Errorf("beside an error there is %v", b)
			}
		}
	}
}

// checkHead: Head takes so many bytes, and the reader has that error then (0: none).
func checkHead(t *testing.T, r *codec.Reader, kind uint64, left int, code api.Errno) {
	t.Helper()
	bundle.Head(r, kind)
	if r.Left() != left {
		t.Errorf("Head of %d: Left is %d, wanted %d", kind, r.Left(), left)
	}
	if code == 0 && left > 0 {
		code = api.ErrTrailing // which isn't kept
	}
	checkError(t, "Head", r.End(), code)
}

// P17.2: Head takes the version and the kind, and tells the first that is another one.
func TestHead(t *testing.T) {
	for version := range 256 {
		for kind := range 256 {
			head := string([]byte{byte(version), byte(kind)})
			code := api.Errno(0)
			if version != 1 {
				code = api.ErrVersion
			}
			checkHead(t, codec.Over(head), uint64(kind), 0, code)
			checkHead(t, codec.Over(head+"xyz"), uint64(kind), 3, code)
			if code == 0 {
				code = api.ErrKind
			}
			for _, other := range []uint64{uint64(kind) + 1, uint64(kind) + 256, uint64(kind) + 1<<32, math.MaxUint64} {
				checkHead(t, codec.Over(head), other, 0, code)
				checkHead(t, codec.Over(head+"xyz"), other, 3, code)
			}
		}
	}
}

// P17.2: what stands behind can be read on, if the head was right, and not otherwise.
func TestReadBehindHead(t *testing.T) {
	r := codec.Over("\x01\x03\x00\x07")
	checkHead(t, r, bundle.Update, 2, 0)
	if got := r.Num(2); got != 7 {
		t.Errorf("behind Head Num is %d", got)
	}
	for _, head := range []string{"\x00\x03", "\x01\x02"} {
		r = codec.Over(head + "\x00\x07")
		bundle.Head(r, bundle.Update)
		if got := r.Num(2); got != 0 {
			t.Errorf("behind another Head Num is %d", got)
		}
	}
}

// P17.2: where two bytes aren't there, it is truncated, whatever is there.
func TestHeadTruncated(t *testing.T) {
	for _, s := range []string{"", "\x00", "\x01", "\x02", "\xff"} {
		for _, kind := range []uint64{0, 1, 2, 3, math.MaxUint64} {
			r := codec.Over(s)
			bundle.Head(r, kind)
			checkError(t, "Head", r.End(), api.ErrTruncated)
		}
	}
}

// P17.2: where the reader has an error, nothing is taken, and that stays.
func TestHeadBehindAnError(t *testing.T) {
	for _, s := range []string{"", "\x01", "\x01\x01", "\x02\x02", "\x01\x02x"} {
		r := codec.Over(s)
		r.Fail(api.ErrDraw)
		checkHead(t, r, bundle.Kind, len(s), api.ErrDraw)
	}
	r := codec.Over("\x02\x02\x01\x01")
	checkHead(t, r, bundle.Kind, 2, api.ErrVersion)
	checkHead(t, r, bundle.Kind, 2, api.ErrVersion)
	checkHead(t, nil, bundle.Kind, 0, api.ErrNil)
}

// P17.2: KindOf is the second byte, whatever the others are.
func TestKindOf(t *testing.T) {
	check := func(s string, wanted uint64) {
		t.Helper()
		if got := bundle.KindOf(s); got != wanted {
			t.Errorf("KindOf of %x is %d, wanted %d", s, got, wanted)
		}
	}
	check("", 0)
	for n := range 256 {
		check(string([]byte{byte(n)}), 0)
		for _, version := range []byte{0, 1, 2, 255} {
			check(string([]byte{version, byte(n)}), uint64(n))
			check(string([]byte{version, byte(n), 9, 8, 7}), uint64(n))
		}
	}
	check(bytesOf(bundle.Bundle{}), bundle.Kind)
}

// Rules: an answer is nobody else's memory, nor are errors.
func TestAnswersAreNew(t *testing.T) {
	b := anyBundle(rand.New(rand.NewSource(11)), 3)
	text := bytesOf(b)
	one, _ := bundle.Parse(text)
	two, _ := bundle.Parse(text)
	clear(one.Keys[:cap(one.Keys)])
	if !same(two, b) {
		t.Errorf("behind another answer was changed: %v", two)
	}
	twice := bundle.Bundle{Keys: []bundle.Prekey{{}, {}}}
	many := bundle.Bundle{Keys: make([]bundle.Prekey, 65)}
	parse := func(s string) func() error {
		return func() error { _, err := bundle.Parse(s); return err }
	}
	for _, call := range []func() error{twice.Check, many.Check, parse(""), parse(text[:9]), parse(text + "x"), parse("x" + text[1:]), parse(bytesOf(twice)), parse(bytesOf(many))} {
		code := fault.Code(call())
		err := call()
		for f := (*fault.Fault)(nil); errors.As(err, &f); {
			err, f.Err = f.Err, nil
		}
		if got := fault.Code(call()); got != code || code == 0 {
			t.Errorf("behind another error was changed: Code is %v, wanted %v", got, code)
		}
	}
}
