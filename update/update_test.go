package update_test

import (
	"encoding/binary"
	"errors"
	"math"
	"math/rand"
	"slices"
	"testing"

	"sapwood/api"
	"sapwood/fault"
	"sapwood/shape"
	"sapwood/update"
)

// anyKeys: some keys.
func anyKeys(random *rand.Rand, n int) []api.Key {
	keys := make([]api.Key, n)
	for i := range keys {
		random.Read(keys[i][:])
	}
	return keys
}

// anyUpdate: one of so many keys.
func anyUpdate(random *rand.Rand, n int) update.Update {
	return update.Update{Stage: random.Uint32(), Leaf: uint16(random.Uint32()), Publics: anyKeys(random, n), Tag: anyKeys(random, 1)[0]}
}

// of: one of that leaf, with so many keys.
func of(leaf uint16, keys int) update.Update {
	return update.Update{Leaf: leaf, Publics: make([]api.Key, keys)}
}

// copied: an update that has nothing of the other one's memory.
func copied(u update.Update) update.Update {
	u.Publics = slices.Clone(u.Publics)
	return u
}

// bodyOf: an update's body, by the document's words and the library, whether it may be or not.
func bodyOf(u update.Update) string {
	text := binary.BigEndian.AppendUint32([]byte{1, 3}, u.Stage)
	text = binary.BigEndian.AppendUint16(text, u.Leaf)
	text = append(text, byte(len(u.Publics)))
	for _, k := range u.Publics {
		text = append(text, k[:]...)
	}
	return string(text)
}

// bytesOf: an update's bytes, the same way.
func bytesOf(u update.Update) string { return bodyOf(u) + string(u.Tag[:]) }

// turned: a text with another byte in one place.
func turned(text string, place int, to byte) string {
	b := []byte(text)
	b[place] = to
	return string(b)
}

// same: have two updates the same in all places?
func same(a, b update.Update) bool {
	return a.Stage == b.Stage && a.Leaf == b.Leaf && slices.Equal(a.Publics, b.Publics) && a.Tag == b.Tag
}

// checkError: a call's error is of that number (0: it has none).
func checkError(t *testing.T, what string, err error, code api.Errno) {
	t.Helper()
	if fault.Code(err) != code || (err == nil) != (code == 0) {
		t.Errorf("%s: the error is %v, wanted %v", what, err, code)
	}
}

// checkRight: an update may be, has these bytes, and is read of them.
func checkRight(t *testing.T, what string, u update.Update) {
	t.Helper()
	checkWritten(t, what, u, bodyOf(u), bytesOf(u), 0)
	checkParse(t, what, bytesOf(u), u, 0)
}

// checkWrong: an update may not be, and has no bytes.
func checkWrong(t *testing.T, what string, u update.Update, code api.Errno) {
	t.Helper()
	checkWritten(t, what, u, "", "", code)
}

// checkWritten: Check, Body and Write answer that error, and these bytes.
func checkWritten(t *testing.T, what string, u update.Update, wantedBody, wantedText string, code api.Errno) {
	t.Helper()
	before := copied(u)
	checkError(t, what+": Check", u.Check(), code)
	body, err := u.Body()
	checkError(t, what+": Body", err, code)
	text, err := u.Write()
	checkError(t, what+": Write", err, code)
	if body != wantedBody || text != wantedText {
		t.Errorf("%s: Body and Write are %.80x and %.80x, wanted %.80x and %.80x", what, body, text, wantedBody, wantedText)
	}
	if !same(u, before) {
		t.Errorf("%s: the update was changed", what)
	}
}

// checkParse: Parse answers that update, and that error.
func checkParse(t *testing.T, what, text string, wanted update.Update, code api.Errno) {
	t.Helper()
	u, err := update.Parse(text)
	checkError(t, what+": Parse", err, code)
	if !same(u, wanted) {
		t.Errorf("%s: Parse is %v, wanted %v", what, u, wanted)
	}
}

// checkRefused: Parse answers that error, and nothing beside.
func checkRefused(t *testing.T, what, text string, code api.Errno) {
	t.Helper()
	checkParse(t, what, text, update.Update{}, code)
}

// checkFits: Fits answers that error.
func checkFits(t *testing.T, what string, u update.Update, n int, code api.Errno) {
	t.Helper()
	before := copied(u)
	checkError(t, what+": Fits", u.Fits(n), code)
	if !same(u, before) {
		t.Errorf("%s: the update was changed", what)
	}
}

// The example.
func TestExample(t *testing.T) {
	u := update.Update{Stage: 0x01020304, Leaf: 0x0506, Publics: []api.Key{{7}}, Tag: api.Key{8}}
	checkRight(t, "the example", u)
	text, _ := u.Write()
	if len(text) != 9+32+32 || text[:10] != "\x01\x03\x01\x02\x03\x04\x05\x06\x01\x07" || text[41] != 8 {
		t.Errorf("it has %d bytes: %x", len(text), text)
	}
}

// P19.1: the bytes of updates of all numbers of keys that may be.
// P19.4: what is written is read as it was.
func TestWrite(t *testing.T) {
	random := rand.New(rand.NewSource(1))
	for n := 1; n <= 10; n++ {
		for range 20 {
			checkRight(t, "an update", anyUpdate(random, n))
		}
	}
}

// P19.1: stages and leaves may be any, also leaves of which there is none in any tree; keys may be zero, and stand there twice.
func TestBounds(t *testing.T) {
	random := rand.New(rand.NewSource(2))
	for _, stage := range []uint32{0, 1, 255, 256, math.MaxUint16, math.MaxUint16 + 1, math.MaxInt32, math.MaxInt32 + 1, math.MaxUint32} {
		for _, leaf := range []uint16{0, 1, 255, 256, 1023, 1024, math.MaxInt16, math.MaxInt16 + 1, math.MaxUint16} {
			u := anyUpdate(random, 3)
			u.Stage, u.Leaf = stage, leaf
			checkRight(t, "at a bound", u)
			checkRight(t, "with zero keys", update.Update{Stage: stage, Leaf: leaf, Publics: make([]api.Key, 10)})
		}
	}
}

// P19.1: fewer than 1 key, or more than 10, also as many as a byte can't tell.
func TestPath(t *testing.T) {
	random := rand.New(rand.NewSource(3))
	checkWrong(t, "zero", update.Update{}, api.ErrPath)
	checkWrong(t, "an empty list", update.Update{Stage: 1, Leaf: 1, Publics: []api.Key{}, Tag: api.Key{1}}, api.ErrPath)
	for _, n := range []int{0, 11, 12, 20, 255, 256, 257, 266, 267, 65536, 65537} {
		checkWrong(t, "another number of keys", anyUpdate(random, n), api.ErrPath)
	}
}

// P19.1: spare room plays no part, and stays as it was.
func TestSpareRoom(t *testing.T) {
	keys := []api.Key{{1}, {2}, {3}, {4}}
	u := update.Update{Publics: keys[:2]}
	checkRight(t, "with spare room", u)
	checkWrong(t, "with nothing but spare room", update.Update{Publics: keys[:0]}, api.ErrPath)
	if !slices.Equal(keys, []api.Key{{1}, {2}, {3}, {4}}) {
		t.Errorf("the keys are %x now", keys)
	}
}

// P19.2: cut anywhere it is truncated, whatever stands in what is there.
func TestTruncated(t *testing.T) {
	random := rand.New(rand.NewSource(4))
	for n := 1; n <= 10; n++ {
		text := bytesOf(anyUpdate(random, n))
		for cut := range len(text) {
			checkRefused(t, "cut", text[:cut], api.ErrTruncated)
		}
	}
	for n := range 9 {
		checkRefused(t, "cut ahead of the keys", "\x02\x01\x00\x00\x00\x00\x00\x00\x00"[:n], api.ErrTruncated)
		checkRefused(t, "cut ahead of the keys", "\x01\x01\xff\xff\xff\xff\xff\xff\xff"[:n], api.ErrTruncated)
		checkRefused(t, "cut ahead of the keys", "\x01\x03\x00\x00\x00\x00\x00\x00\x00"[:n], api.ErrTruncated)
	}
}

// P19.2: all other versions, and all other kinds; the same where nothing stands behind.
func TestVersionAndKind(t *testing.T) {
	text := bytesOf(anyUpdate(rand.New(rand.NewSource(5)), 2))
	for n := range 256 {
		for _, s := range []string{text, text[:9]} {
			if n != 1 {
				checkRefused(t, "another version", turned(s, 0, byte(n)), api.ErrVersion)
				checkRefused(t, "another version and kind", turned(turned(s, 0, byte(n)), 1, 1), api.ErrVersion)
			}
			if n != 3 {
				checkRefused(t, "another kind", turned(s, 1, byte(n)), api.ErrKind)
			}
		}
	}
}

// P19.2: there are to be fewer than 1 key, or more than 10, and are so many, or others.
func TestParsePath(t *testing.T) {
	random := rand.New(rand.NewSource(6))
	for n := range 256 {
		if 1 <= n && n <= 10 {
			continue
		}
		text := bytesOf(anyUpdate(random, n))
		checkRefused(t, "another number of keys", text, api.ErrPath)
		checkRefused(t, "another number of keys, of which not all are there", text[:len(text)-1], api.ErrPath)
		checkRefused(t, "another number of keys, of which none is there", text[:9], api.ErrPath)
		checkRefused(t, "another number of keys, and a byte", text+"x", api.ErrPath)
	}
}

// P19.2: bytes behind, however many: a key more than the number says is trailing, too.
func TestTrailing(t *testing.T) {
	random := rand.New(rand.NewSource(7))
	for n := 1; n <= 10; n++ {
		text := bytesOf(anyUpdate(random, n))
		for _, more := range []int{1, 31, 32, 33, 64, 1 << 17, 1<<17 + 1} {
			checkRefused(t, "bytes behind", text+string(make([]byte, more)), api.ErrTrailing)
		}
		checkRefused(t, "one update behind the other", text+text, api.ErrTrailing)
		if n > 1 {
			checkRefused(t, "fewer keys than are there", turned(text, 8, byte(n-1)), api.ErrTrailing)
		}
		if n < 10 {
			checkRefused(t, "more keys than are there", turned(text, 8, byte(n+1)), api.ErrTruncated)
		}
	}
}

// P19.2: of several errors the one that is named first.
func TestOrder(t *testing.T) {
	right := bytesOf(anyUpdate(rand.New(rand.NewSource(8)), 4))
	for faults := 1; faults < 64; faults++ {
		text, code := right, api.Errno(0)
		more, cut, path, kind, version, head := faults&1 != 0, faults&2 != 0, faults&4 != 0, faults&8 != 0, faults&16 != 0, faults&32 != 0
		if more {
			text, code = text+"xy", api.ErrTrailing
		}
		if cut {
			text, code = right[:len(right)-1], api.ErrTruncated
		}
		if path {
			text, code = turned(text, 8, 11), api.ErrPath
		}
		if kind {
			text, code = turned(text, 1, 2), api.ErrKind
		}
		if version {
			text, code = turned(text, 0, 0), api.ErrVersion
		}
		if head {
			text, code = text[:8], api.ErrTruncated
		}
		checkRefused(t, "several errors", text, code)
	}
}

// P19.4: what is read would be written so: whatever one byte is turned to.
func TestReadIsWritten(t *testing.T) {
	text := bytesOf(anyUpdate(rand.New(rand.NewSource(9)), 3))
	for place := range text {
		for to := range 256 {
			one := turned(text, place, byte(to))
			u, err := update.Parse(one)
			switch {
			case err == nil:
				checkWritten(t, "what was read", u, one[:len(one)-32], one, 0)
			case !same(u, update.Update{}):
				t.Errorf("beside an error there is %v", u)
			case place > 8 || 2 <= place && place < 8:
				t.Errorf("with another byte at %d the error is %v", place, err)
			}
		}
	}
}

// P19.3: of each leaf of a tree just as many keys as its Depth.
func TestFits(t *testing.T) {
	for n := 2; n <= 1024; n++ {
		for leaf := range n {
			if n > 70 && n < 1000 && leaf%37 != 0 && leaf < n-2 {
				continue
			}
			depth := shape.Depth(n, leaf)
			for keys := range 13 {
				code := api.ErrPath
				if keys == depth {
					code = 0
				}
				checkFits(t, "a leaf", of(uint16(leaf), keys), n, code)
			}
		}
	}
}

// P19.3: of trees that the words tell: of 5 the fifth leaf is just below the root.
func TestFitsOfFive(t *testing.T) {
	for leaf := range uint16(4) {
		checkFits(t, "of 5", of(leaf, 3), 5, 0)
		checkFits(t, "of 5", of(leaf, 1), 5, api.ErrPath)
	}
	checkFits(t, "of 5", of(4, 1), 5, 0)
	checkFits(t, "of 5", of(4, 3), 5, api.ErrPath)
	checkFits(t, "of 5", of(5, 1), 5, api.ErrLeaf)
}

// P19.3: where there are not from 2 to 1024 leaves, whatever the update is.
func TestFitsSize(t *testing.T) {
	for _, n := range []int{math.MinInt, math.MinInt32, -1024, -1, 0, 1, 1025, 1026, 2048, 65535, 65536, 65538, math.MaxInt32, 1<<32 + 2, math.MaxInt} {
		for _, leaf := range []uint16{0, 1, 1023, 1024, math.MaxUint16} {
			for _, keys := range []int{0, 1, 10, 11} {
				checkFits(t, "another number of leaves", of(leaf, keys), n, api.ErrSize)
			}
		}
	}
}

// P19.3: where there is no such leaf, whatever its keys are.
func TestFitsLeaf(t *testing.T) {
	for _, n := range []int{2, 3, 4, 5, 64, 255, 256, 257, 1023, 1024} {
		for _, leaf := range []int{n, n + 1, 2 * n, 1024, 65535 - n, 65534, 65535} {
			for keys := range 12 {
				checkFits(t, "no such leaf", of(uint16(leaf), keys), n, api.ErrLeaf)
			}
		}
	}
}

// P19.3: keys as many as no update has, and what keys, stage and tag are plays no part.
func TestFitsAlone(t *testing.T) {
	random := rand.New(rand.NewSource(10))
	for _, keys := range []int{0, 11, 255, 256, 257, 65537} {
		checkFits(t, "other numbers of keys", anyUpdate(random, keys), 1, api.ErrSize)
		u := of(1, keys)
		checkFits(t, "other numbers of keys", u, 2, api.ErrPath)
		checkFits(t, "other numbers of keys", u, 1024, api.ErrPath)
	}
	for range 50 {
		u := anyUpdate(random, 10)
		u.Leaf %= 1024
		checkFits(t, "any keys", u, 1024, 0)
	}
}

// Rules: an answer is nobody else's memory.
func TestAnswersAreNew(t *testing.T) {
	u := anyUpdate(rand.New(rand.NewSource(11)), 5)
	text := bytesOf(u)
	one, _ := update.Parse(text)
	two, _ := update.Parse(text)
	clear(one.Publics[:cap(one.Publics)])
	if !same(two, u) {
		t.Errorf("behind another answer was changed: %v", two)
	}
	checkRight(t, "behind an answer was changed", u)
}

// Rules: the errors, too, are nobody else's.
func TestErrorsAreNew(t *testing.T) {
	u := anyUpdate(rand.New(rand.NewSource(12)), 5)
	text := bytesOf(u)
	parse := func(text string) func() error {
		return func() error { _, err := update.Parse(text); return err }
	}
	fits := func(n int) func() error {
		return func() error { return of(3, 1).Fits(n) }
	}
	body := func() error { _, err := update.Update{}.Body(); return err }
	write := func() error { _, err := update.Update{}.Write(); return err }
	for _, call := range []func() error{update.Update{}.Check, body, write, fits(1), fits(2), fits(4), parse(""), parse(text[:40]), parse(text + "x"), parse("x" + text[1:]), parse(turned(text, 1, 2)), parse(turned(text, 8, 0))} {
		code := fault.Code(call())
		err := call()
		for f := (*fault.Fault)(nil); errors.As(err, &f); {
			err, f.Err = f.Err, nil
		}
		if got := fault.Code(call()); got != code || code == 0 {
			t.Errorf("behind another error was changed: Code is %v, wanted %v", got, code)
		}
	}
}
