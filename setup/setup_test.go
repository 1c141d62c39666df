package setup_test

import (
	"encoding/binary"
	"errors"
	"math"
	"math/rand"
	"slices"
	"testing"

	"sapwood/api"
	"sapwood/fault"
	"sapwood/setup"
	"sapwood/shape"
)

// anyKeys: some keys.
func anyKeys(random *rand.Rand, n int) []api.Key {
	keys := make([]api.Key, n)
	for i := range keys {
		random.Read(keys[i][:])
	}
	return keys
}

// anySetup: one of so many seats, each of another name.
func anySetup(random *rand.Rand, n int) setup.Setup {
	s := setup.Setup{Fresh: anyKeys(random, 1)[0], Publics: anyKeys(random, max(2*n-2, 0)), Tag: anyKeys(random, 1)[0]}
	first := random.Uint32()
	for i := range uint32(n) {
		s.Seats = append(s.Seats, setup.Seat{Name: first + i*0x01020305, ID: random.Uint32()}) // names also beyond the greatest number, and from 0 on
	}
	return s
}

// node: one of some leaves.
func node(from, size int) shape.Node { return shape.Node{From: from, Size: size} }

// copied: a setup that has nothing of the other one's memory.
func copied(s setup.Setup) setup.Setup {
	s.Seats, s.Publics = slices.Clone(s.Seats), slices.Clone(s.Publics)
	return s
}

// bodyOf: a setup's body, by the document's words and the library, whether it may be or not.
func bodyOf(s setup.Setup) string {
	text := binary.BigEndian.AppendUint16([]byte{1, 2}, uint16(len(s.Seats)))
	for _, seat := range s.Seats {
		text = binary.BigEndian.AppendUint32(binary.BigEndian.AppendUint32(text, seat.Name), seat.ID)
	}
	text = append(text, s.Fresh[:]...)
	for _, k := range s.Publics {
		text = append(text, k[:]...)
	}
	return string(text)
}

// bytesOf: a setup's bytes, the same way.
func bytesOf(s setup.Setup) string { return bodyOf(s) + string(s.Tag[:]) }

// turned: a text with another byte in one place.
func turned(text string, place int, to byte) string {
	b := []byte(text)
	b[place] = to
	return string(b)
}

// same: have two setups the same in all places?
func same(a, b setup.Setup) bool {
	return slices.Equal(a.Seats, b.Seats) && a.Fresh == b.Fresh && slices.Equal(a.Publics, b.Publics) && a.Tag == b.Tag
}

// checkError: a call's error is of that number (0: it has none).
func checkError(t *testing.T, what string, err error, code api.Errno) {
	t.Helper()
	if fault.Code(err) != code || (err == nil) != (code == 0) {
		t.Errorf("%s: the error is %v, wanted %v", what, err, code)
	}
}

// checkRight: a setup may be, has these bytes, and is read of them.
func checkRight(t *testing.T, what string, s setup.Setup) {
	t.Helper()
	checkWritten(t, what, s, bodyOf(s), bytesOf(s), 0)
	checkParse(t, what, bytesOf(s), s, 0)
}

// checkWrong: a setup may not be, and has no bytes.
func checkWrong(t *testing.T, what string, s setup.Setup, code api.Errno) {
	t.Helper()
	checkWritten(t, what, s, "", "", code)
}

// checkWritten: Check, Body and Write answer that error, and these bytes.
func checkWritten(t *testing.T, what string, s setup.Setup, wantedBody, wantedText string, code api.Errno) {
	t.Helper()
	before := copied(s)
	checkError(t, what+": Check", s.Check(), code)
	body, err := s.Body()
	checkError(t, what+": Body", err, code)
	text, err := s.Write()
	checkError(t, what+": Write", err, code)
	if body != wantedBody || text != wantedText {
		t.Errorf("%s: Body and Write are %.80x and %.80x, wanted %.80x and %.80x", what, body, text, wantedBody, wantedText)
	}
	if !same(s, before) {
		t.Errorf("%s: the setup was changed", what)
	}
}

// checkParse: Parse answers that setup, and that error.
func checkParse(t *testing.T, what, text string, wanted setup.Setup, code api.Errno) {
	t.Helper()
	s, err := setup.Parse(text)
	checkError(t, what+": Parse", err, code)
	if !same(s, wanted) {
		t.Errorf("%s: Parse is %v, wanted %v", what, s, wanted)
	}
}

// checkRefused: Parse answers that error, and nothing beside.
func checkRefused(t *testing.T, what, text string, code api.Errno) {
	t.Helper()
	checkParse(t, what, text, setup.Setup{}, code)
}

// checkSeat: Seat answers that.
func checkSeat(t *testing.T, what string, s setup.Setup, name uint32, wanted int, is bool) {
	t.Helper()
	place, ok := s.Seat(name)
	if place != wanted || ok != is {
		t.Errorf("%s: Seat of %d is %d, %v, wanted %d, %v", what, name, place, ok, wanted, is)
	}
}

// checkPublic: Public answers that.
func checkPublic(t *testing.T, what string, s setup.Setup, v shape.Node, wanted api.Key, is bool) {
	t.Helper()
	k, ok := s.Public(v)
	if k != wanted || ok != is {
		t.Errorf("%s: Public of %v is %x, %v, wanted %x, %v", what, v, k, ok, wanted, is)
	}
}

// checkCopath: Copath answers these.
func checkCopath(t *testing.T, what string, s setup.Setup, leaf int, wanted ...api.Key) {
	t.Helper()
	if got := s.Copath(leaf); !slices.Equal(got, wanted) {
		t.Errorf("%s: Copath of %d is %x, wanted %x", what, leaf, got, wanted)
	}
}

// The example.
func TestExample(t *testing.T) {
	s := setup.Setup{Seats: []setup.Seat{{1, 0}, {2, 0x03040506}}, Fresh: api.Key{7}, Publics: []api.Key{{8}, {9}}, Tag: api.Key{10}}
	checkRight(t, "the example", s)
	text, _ := s.Write()
	if len(text) != 2+2+16+32+64+32 || text[:20] != "\x01\x02\x00\x02\x00\x00\x00\x01\x00\x00\x00\x00\x00\x00\x00\x02\x03\x04\x05\x06" {
		t.Errorf("it has %d bytes: %x", len(text), text)
	}
}

// P18.1: the bytes of setups of all kinds of sizes that may be, also the greatest.
// P18.4: what is written is read as it was.
func TestWrite(t *testing.T) {
	random := rand.New(rand.NewSource(1))
	for n := 2; n < 70; n++ {
		checkRight(t, "a setup", anySetup(random, n))
	}
	for _, n := range []int{127, 128, 129, 255, 256, 257, 258, 512, 513, 1000, 1022, 1023, 1024} {
		checkRight(t, "a setup", anySetup(random, n))
	}
}

// P18.1: names and numbers may be any; keys, and numbers of prekeys, may stand there twice; the first seat's number is told as it is.
func TestAnySeats(t *testing.T) {
	s := setup.Setup{Seats: []setup.Seat{{0, 0}, {math.MaxUint32, math.MaxUint32}, {math.MaxInt32, 0}, {math.MaxInt32 + 1, 0}, {256, 5}}, Publics: make([]api.Key, 8)}
	checkRight(t, "seats at the bounds", s)
	s.Seats[0].ID, s.Seats[4].ID = 77, 77
	checkRight(t, "a number of the first seat", s)
}

// P18.1: where there are not from 2 to 1024 seats, whatever the rest is.
func TestSize(t *testing.T) {
	random := rand.New(rand.NewSource(2))
	checkWrong(t, "zero", setup.Setup{}, api.ErrSize)
	checkWrong(t, "empty lists", setup.Setup{Seats: []setup.Seat{}, Publics: []api.Key{}}, api.ErrSize)
	for _, n := range []int{0, 1, 1025, 1026, 2048, 65535, 65536, 65538} {
		s := anySetup(random, n)
		checkWrong(t, "another number of seats", s, api.ErrSize)
		s.Publics = append(s.Publics, api.Key{})
		checkWrong(t, "another number of seats, and a key", s, api.ErrSize)
		if n > 1 {
			s.Seats[n-1].Name = s.Seats[0].Name
			checkWrong(t, "another number of seats, and a name twice", s, api.ErrSize)
		}
	}
}

// P18.1: a name that stands there twice, wherever, also where the keys are too few.
func TestTwice(t *testing.T) {
	random := rand.New(rand.NewSource(3))
	for _, n := range []int{2, 3, 5, 33} {
		for i := range n {
			for j := range i {
				s := anySetup(random, n)
				s.Seats[i].Name = s.Seats[j].Name
				checkWrong(t, "a name twice", s, api.ErrName)
				checkSeat(t, "a name twice", s, s.Seats[i].Name, j, true)
				checkRefused(t, "a name twice", bytesOf(s), api.ErrName)
				s.Publics = s.Publics[1:]
				checkWrong(t, "a name twice, and too few keys", s, api.ErrName)
			}
		}
	}
	s := anySetup(random, 1024)
	s.Seats[1023].Name = s.Seats[0].Name
	checkWrong(t, "a name twice of many", s, api.ErrName)
	checkRefused(t, "a name twice of many", bytesOf(s), api.ErrName)
}

// P18.1: another number of public keys.
func TestPath(t *testing.T) {
	random := rand.New(rand.NewSource(4))
	for _, n := range []int{2, 3, 4, 7, 1024} {
		for _, keys := range []int{0, 1, n - 1, n, 2*n - 4, 2*n - 3, 2*n - 2, 2*n - 1, 2 * n, 4 * n} {
			s := anySetup(random, n)
			s.Publics = anyKeys(random, keys)
			if keys == 2*n-2 {
				checkRight(t, "the right number", s)
			} else {
				checkWrong(t, "another number of keys", s, api.ErrPath)
			}
		}
	}
}

// P18.2: cut anywhere it is truncated, whatever stands in what is there.
func TestTruncated(t *testing.T) {
	random := rand.New(rand.NewSource(5))
	s := anySetup(random, 3)
	s.Seats[2].Name = s.Seats[0].Name // ErrName were later
	text := bytesOf(s)
	for n := range len(text) {
		checkRefused(t, "cut", text[:n], api.ErrTruncated)
	}
	for n := range 4 {
		checkRefused(t, "cut ahead of the seats", "\x02\x01\xff\xff"[:n], api.ErrTruncated)
		checkRefused(t, "cut ahead of the seats", "\x01\x01\xff\xff"[:n], api.ErrTruncated)
		checkRefused(t, "cut ahead of the seats", "\x01\x02\xff\xff"[:n], api.ErrTruncated)
	}
	text = bytesOf(anySetup(random, 1024))
	for _, n := range []int{4, 5, 4 + 8*1024, 4 + 8*1024 + 32, len(text) - 32, len(text) - 1} {
		checkRefused(t, "cut", text[:n], api.ErrTruncated)
	}
}

// P18.2: all other versions, and all other kinds.
func TestVersionAndKind(t *testing.T) {
	text := bytesOf(anySetup(rand.New(rand.NewSource(6)), 2))
	for n := range 256 {
		if n != 1 {
			checkRefused(t, "another version", turned(text, 0, byte(n)), api.ErrVersion)
			checkRefused(t, "another version and kind", turned(turned(text, 0, byte(n)), 1, 1), api.ErrVersion)
		}
		if n != 2 {
			checkRefused(t, "another kind", turned(text, 1, byte(n)), api.ErrKind)
		}
	}
}

// P18.2: there are to be fewer than 2 seats, or more than 1024, and are so many, or none.
func TestParseSize(t *testing.T) {
	random := rand.New(rand.NewSource(7))
	for _, n := range []int{0, 1, 1025, 1026, 1600, 32768, 65535} {
		head := string([]byte{1, 2, byte(n >> 8), byte(n)})
		checkRefused(t, "another number of seats", head, api.ErrSize)
		checkRefused(t, "another number of seats, and bytes", head+string(make([]byte, 64)), api.ErrSize)
		if text := bytesOf(anySetup(random, n)); len(text) <= 1<<17 {
			checkRefused(t, "another number of seats, that are there", text, api.ErrSize)
		}
	}
}

// P18.2: more than 131072 bytes, whatever they are; and as many, which are no setup's.
func TestLong(t *testing.T) {
	right := bytesOf(anySetup(rand.New(rand.NewSource(8)), 5))
	for _, begun := range []string{right, "", turned(right, 0, 2), turned(right, 1, 3), turned(right, 2, 255), "\x01\x02\x04\x00"} {
		for _, n := range []int{1<<17 + 1, 1<<17 + 2, 1 << 18} {
			checkRefused(t, "long", begun+string(make([]byte, n-len(begun))), api.ErrLong)
		}
	}
	checkRefused(t, "just not long", right+string(make([]byte, 1<<17-len(right))), api.ErrTrailing)
	checkRefused(t, "just not long", string(make([]byte, 1<<17)), api.ErrVersion)
}

// P18.2: bytes behind.
func TestTrailing(t *testing.T) {
	random := rand.New(rand.NewSource(9))
	for _, n := range []int{2, 3, 5, 1024} {
		for _, more := range []int{1, 8, 31, 32, 72} {
			checkRefused(t, "bytes behind", bytesOf(anySetup(random, n))+string(make([]byte, more)), api.ErrTrailing)
		}
	}
}

// P18.2: of several errors the one that is named first.
func TestOrder(t *testing.T) {
	s := anySetup(rand.New(rand.NewSource(10)), 4)
	s.Seats[3].Name = s.Seats[1].Name
	for faults := range 64 {
		text, code := bytesOf(s), api.ErrName
		cut, more, size, kind, version, long := faults&1 != 0, faults&2 != 0, faults&4 != 0, faults&8 != 0, faults&16 != 0, faults&32 != 0
		if more {
			text, code = text+"xy", api.ErrTrailing
		}
		if cut {
			text, code = bytesOf(s)[:len(bytesOf(s))-1], api.ErrTruncated
		}
		if size {
			text, code = turned(text, 2, 5), api.ErrSize
		}
		if kind {
			text, code = turned(text, 1, 3), api.ErrKind
		}
		if version {
			text, code = turned(text, 0, 0), api.ErrVersion
		}
		if long {
			text, code = text+string(make([]byte, 1<<17)), api.ErrLong
		}
		checkRefused(t, "several errors", text, code)
	}
}

// P18.4: what is read would be written so: whatever one byte is turned to.
func TestReadIsWritten(t *testing.T) {
	text := bytesOf(anySetup(rand.New(rand.NewSource(11)), 3))
	for place := range text {
		for to := range 256 {
			one := turned(text, place, byte(to))
			s, err := setup.Parse(one)
			if err == nil {
				checkWritten(t, "what was read", s, one[:len(one)-32], one, 0)
			} else if !same(s, setup.Setup{}) {
				t.Errorf("beside an error there is %v", s)
			}
		}
	}
}

// P18.3: each name's place; of a name that isn't there 0 and false.
func TestSeat(t *testing.T) {
	random := rand.New(rand.NewSource(12))
	for _, n := range []int{0, 1, 2, 3, 64, 1024, 2000} {
		s := anySetup(random, n)
		for i, seat := range s.Seats {
			checkSeat(t, "a name", s, seat.Name, i, true)
			if !slices.ContainsFunc(s.Seats, func(o setup.Seat) bool { return o.Name == seat.Name+1 }) {
				checkSeat(t, "no name", s, seat.Name+1, 0, false)
			}
		}
	}
	s := setup.Setup{Seats: []setup.Seat{{7, 1}, {8, 9}, {7, 2}, {8, 3}, {0, 4}}}
	checkSeat(t, "the first of two", s, 7, 0, true)
	checkSeat(t, "the first of two", s, 8, 1, true)
	checkSeat(t, "the name 0", s, 0, 4, true)
	checkSeat(t, "a prekey's number", s, 9, 0, false)
	checkSeat(t, "zero", setup.Setup{}, 0, 0, false)
}

// P18.3: the keys stand in preorder, without the root's.
func TestPublic(t *testing.T) {
	random := rand.New(rand.NewSource(13))
	for _, n := range []int{1, 2, 3, 4, 5, 6, 7, 8, 13, 64, 100, 1024} {
		s := anySetup(random, n)
		for i, v := range shape.All(n) {
			if i == 0 {
				checkPublic(t, "the root", s, v, api.Key{}, false)
			} else {
				checkPublic(t, "a node", s, v, s.Publics[i-1], true)
			}
			checkPublic(t, "no node", s, node(v.From, -v.Size), api.Key{}, false)
			checkPublic(t, "no node", s, node(v.From+n, v.Size), api.Key{}, false)
		}
	}
	s := setup.Setup{Seats: make([]setup.Seat, 3), Publics: []api.Key{{1}, {2}, {3}, {4}}}
	for _, v := range []shape.Node{node(0, 0), node(0, 3), node(0, -1), node(-1, 1), node(3, 1), node(1, 2), node(2, 2), node(0, 4), node(math.MaxInt, 1), node(math.MinInt, 1), node(0, math.MaxInt), node(0, math.MinInt)} {
		checkPublic(t, "no node but the root", s, v, api.Key{}, false)
	}
	for i, v := range []shape.Node{node(0, 2), node(0, 1), node(1, 1), node(2, 1)} {
		checkPublic(t, "of 3", s, v, api.Key{byte(i + 1)}, true)
	}
}

// P18.3: of numbers of seats of which there is no tree no node has a key.
func TestNoTree(t *testing.T) {
	for _, n := range []int{0, 1, 1025, 2048} {
		s := setup.Setup{Seats: make([]setup.Seat, n), Publics: make([]api.Key, 5000)}
		for _, v := range []shape.Node{node(0, 0), node(0, 0), node(0, 1), node(1, 1), node(0, 2), node(0, n), node(0, 512), node(0, 1024), node(1024, 1)} {
			checkPublic(t, "no tree", s, v, api.Key{}, false)
		}
		for _, leaf := range []int{-1, 0, 1, 2, n - 1, n, math.MaxInt, math.MinInt} {
			checkCopath(t, "no tree", s, leaf)
		}
	}
}

// P18.3: where there are too few keys, those that are there are told, and no copath that wants another one; more play no part.
func TestOtherNumberOfKeys(t *testing.T) {
	random := rand.New(rand.NewSource(14))
	for _, n := range []int{2, 3, 5, 8, 11} {
		whole := anySetup(random, n)
		for keys := range 2*n + 3 {
			s := copied(whole)
			s.Publics = append(s.Publics, anyKeys(random, 5)...)[:keys] // with others behind, in spare room
			for i, v := range shape.All(n) {
				if i > 0 && i <= keys {
					checkPublic(t, "a key that is there", s, v, s.Publics[i-1], true)
				} else {
					checkPublic(t, "a key that isn't there", s, v, api.Key{}, false)
				}
			}
			for leaf := range n {
				wanted := copathOf(s, leaf)
				checkCopath(t, "as many keys as one likes", s, leaf, wanted...)
			}
		}
	}
}

// copathOf: a leaf's copath by the keys' places in preorder; none, where one isn't there.
func copathOf(s setup.Setup, leaf int) []api.Key {
	var keys []api.Key
	all := shape.All(len(s.Seats))
	for _, v := range shape.Copath(len(s.Seats), leaf) {
		place := slices.Index(all, v) - 1
		if place >= len(s.Publics) {
			return nil
		}
		keys = append(keys, s.Publics[place])
	}
	return keys
}

// P18.3: the keys of a leaf's copath, in order; of no such leaf none.
func TestCopath(t *testing.T) {
	random := rand.New(rand.NewSource(15))
	for _, n := range []int{2, 3, 4, 5, 6, 7, 8, 13, 100, 1024} {
		s := anySetup(random, n)
		for leaf := range n {
			if depth := shape.Depth(n, leaf); len(s.Copath(leaf)) != depth {
				t.Errorf("of %d, %d there are %d keys, wanted %d", n, leaf, len(s.Copath(leaf)), depth)
			}
			checkCopath(t, "a leaf", s, leaf, copathOf(s, leaf)...)
		}
		for _, leaf := range []int{-1, n, n + 1, math.MinInt, math.MaxInt} {
			checkCopath(t, "no leaf", s, leaf)
		}
	}
	s := setup.Setup{Seats: make([]setup.Seat, 3), Publics: []api.Key{{1}, {2}, {3}, {4}}}
	checkCopath(t, "of 3", s, 0, api.Key{3}, api.Key{4})
	checkCopath(t, "of 3", s, 1, api.Key{2}, api.Key{4})
	checkCopath(t, "of 3", s, 2, api.Key{1})
}

// Rules: an answer is nobody else's memory, nor are errors; what is asked changes nothing.
func TestAnswersAreNew(t *testing.T) {
	s := anySetup(rand.New(rand.NewSource(16)), 5)
	before, text := copied(s), bytesOf(s)
	for range 2 {
		keys := s.Copath(3)
		clear(keys[:cap(keys)])
		one, _ := setup.Parse(text)
		clear(one.Seats[:cap(one.Seats)])
		clear(one.Publics[:cap(one.Publics)])
	}
	s.Public(node(0, 1))
	s.Seat(before.Seats[2].Name)
	if !same(s, before) {
		t.Errorf("the setup was changed: %v", s)
	}
	checkRight(t, "behind answers were changed", s)
}

// Rules: the errors, too, are nobody else's.
func TestErrorsAreNew(t *testing.T) {
	s := anySetup(rand.New(rand.NewSource(17)), 5)
	text := bytesOf(s)
	parse := func(text string) func() error {
		return func() error { _, err := setup.Parse(text); return err }
	}
	write := func() error { _, err := setup.Setup{}.Write(); return err }
	few := setup.Setup{Seats: s.Seats}
	twice := setup.Setup{Seats: make([]setup.Seat, 2)}
	for _, call := range []func() error{write, few.Check, twice.Check, parse(""), parse(text[:9]), parse(text + "x"), parse("x" + text[1:]), parse(turned(text, 2, 9)), parse(string(make([]byte, 1<<18)))} {
		code := fault.Code(call())
		err := call()
		for f := (*fault.Fault)(nil); errors.As(err, &f); {
			err, f.Err = f.Err, nil
		}
		if got := fault.Code(call()); got != code || code == 0 {
			t.Errorf("behind another error was changed: Code is %v, wanted %v", got, code)
		}
	}
}
