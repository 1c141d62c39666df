package mail_test

import (
	"errors"
	"fmt"
	"math"
	"math/rand"
	"slices"
	"strings"
	"testing"

	"sapwood/api"
	"sapwood/fault"
	"sapwood/mail"
)

// most: how many texts an office may have.
const most = 4096

// boxes: what an office should have.
type boxes map[uint32][]string

// checkError: a call's error is of that number (0: it has none).
func checkError(t *testing.T, what string, err error, code api.Errno) {
	t.Helper()
	if fault.Code(err) != code || (err == nil) != (code == 0) {
		t.Errorf("%s: the error is %v, wanted %v", what, err, code)
	}
}

// checkOffice: an office has these inboxes, and asking changes nothing.
func checkOffice(t *testing.T, what string, o *mail.Office, wanted boxes) {
	t.Helper()
	var names []uint32
	for name := range wanted {
		names = append(names, name)
	}
	slices.Sort(names)
	for range 2 {
		if got := o.Names(); !slices.Equal(got, names) {
			t.Fatalf("%s: the names are %v, wanted %v", what, got, names)
		}
		for _, name := range names {
			if got, ok := o.Box(name); !ok || !slices.Equal(got, wanted[name]) {
				t.Fatalf("%s: Box(%d) is %.200q, %v, wanted %.200q", what, name, got, ok, wanted[name])
			}
		}
	}
	for _, name := range []uint32{0, 1, 7, 4711, math.MaxUint32} {
		if got, ok := o.Box(name); !slices.Contains(names, name) && (ok || len(got) != 0) {
			t.Errorf("%s: Box(%d) is %q, %v, and there is no such name", what, name, got, ok)
		}
	}
}

// boxesOf: what an office has.
func boxesOf(o *mail.Office) boxes {
	b := boxes{}
	for _, name := range o.Names() {
		b[name], _ = o.Box(name)
	}
	return b
}

// checkRefused: a call has that error, and nothing is done.
func checkRefused(t *testing.T, what string, o *mail.Office, call func() error, code api.Errno) {
	t.Helper()
	before := boxesOf(o)
	checkError(t, what, call(), code)
	if code == 0 {
		t.Errorf("%s: the test itself is wrong", what)
	}
	checkOffice(t, what, o, before)
}

// checkTaken: a text is taken.
func checkTaken(t *testing.T, what string, o *mail.Office, to uint32, i int, wanted string) {
	t.Helper()
	text, err := o.Take(to, i)
	checkError(t, what, err, 0)
	if text != wanted {
		t.Errorf("%s: Take(%d, %d) is %q, wanted %q", what, to, i, text, wanted)
	}
}

// take: a Take of which only the error plays a part; beside an error there is no text.
func take(t *testing.T, o *mail.Office, to uint32, i int) error {
	t.Helper()
	text, err := o.Take(to, i)
	if err != nil && text != "" {
		t.Errorf("Take(%d, %d): beside %v there is %q", to, i, err, text)
	}
	return err
}

// put: texts that may be put.
func put(t *testing.T, o *mail.Office, to uint32, texts ...string) {
	t.Helper()
	for _, text := range texts {
		checkError(t, "Put", o.Put(to, text), 0)
	}
}

// full: an office of these names, in whose inbox of the name 1 so many texts are.
func full(t *testing.T, n int, names ...uint32) *mail.Office {
	t.Helper()
	o := mail.New(names...)
	for i := range n {
		put(t, o, 1, fmt.Sprint(i))
	}
	return o
}

// The example.
func TestExample(t *testing.T) {
	o := mail.New(1, 2)
	checkError(t, "Send", o.Send(1, "x"), 0)
	checkOffice(t, "the example", o, boxes{1: nil, 2: {"x"}})
}

// P25.1: New has each name once, also where it is said twice, and all inboxes are empty.
func TestNew(t *testing.T) {
	checkOffice(t, "no names", mail.New(), boxes{})
	checkOffice(t, "one", mail.New(7), boxes{7: nil})
	checkOffice(t, "nought", mail.New(0), boxes{0: nil})
	checkOffice(t, "not rising", mail.New(9, 3, math.MaxUint32, 0, 5, 1<<31), boxes{0: nil, 3: nil, 5: nil, 9: nil, 1 << 31: nil, math.MaxUint32: nil})
	o := mail.New(3, 1, 3, 3, 1)
	checkOffice(t, "twice", o, boxes{1: nil, 3: nil})
	checkError(t, "Send", o.Send(1, "once"), 0)
	checkOffice(t, "sent to a name that was said often", o, boxes{1: nil, 3: {"once"}})
	var many []uint32
	wanted := boxes{}
	for i := range uint32(6000) {
		many = append(many, 7*(6000-i))
		wanted[7*(i+1)] = nil
	}
	o = mail.New(many...)
	checkOffice(t, "many", o, wanted)
	checkRefused(t, "Send to more than there may be texts", o, func() error { return o.Send(7, "x") }, api.ErrMany)
	put(t, o, 7, "y")
	wanted[7] = []string{"y"}
	checkOffice(t, "put to one of many", o, wanted)
}

// P25.2: Send puts a text behind in all inboxes but the sender's own, whatever bytes it has.
func TestSend(t *testing.T) {
	o := mail.New(1, 2, 3)
	checkError(t, "Send", o.Send(2, "a"), 0)
	checkOffice(t, "by one", o, boxes{1: {"a"}, 2: nil, 3: {"a"}})
	checkError(t, "Send", o.Send(1, ""), 0)
	checkError(t, "Send", o.Send(3, "\x00\xff\xfe"), 0)
	checkError(t, "Send", o.Send(3, "a"), 0)
	checkOffice(t, "by all", o, boxes{1: {"a", "\x00\xff\xfe", "a"}, 2: {"", "\x00\xff\xfe", "a"}, 3: {"a", ""}})
	one := mail.New(5)
	checkError(t, "Send", one.Send(5, "a"), 0)
	checkOffice(t, "to nobody", one, boxes{5: nil})
}

// P25.2: Put puts a text behind in that inbox alone, the sender's own or not.
func TestPut(t *testing.T) {
	o := mail.New(0, 1)
	put(t, o, 1, "a", "b", "a", "")
	put(t, o, 0, strings.Repeat("long", 100000))
	checkOffice(t, "put", o, boxes{0: {strings.Repeat("long", 100000)}, 1: {"a", "b", "a", ""}})
}

// P25.2: Take takes the text of any place; the others close up.
func TestTake(t *testing.T) {
	for i := range 4 {
		texts := []string{"a", "b", "c", "d"}
		o := mail.New(1, 2)
		put(t, o, 1, texts...)
		put(t, o, 2, texts...)
		checkTaken(t, "one", o, 2, i, texts[i])
		checkOffice(t, "behind one", o, boxes{1: texts, 2: slices.Delete(slices.Clone(texts), i, i+1)})
	}
	o := mail.New(1)
	put(t, o, 1, "a", "", "a", "b")
	checkTaken(t, "the last", o, 1, 3, "b")
	checkTaken(t, "the first", o, 1, 0, "a")
	checkTaken(t, "the empty one", o, 1, 0, "")
	put(t, o, 1, "c")
	checkTaken(t, "behind Put", o, 1, 1, "c")
	checkTaken(t, "the one left", o, 1, 0, "a")
	checkRefused(t, "of none", o, func() error { return take(t, o, 1, 0) }, api.ErrNone)
	checkOffice(t, "behind all", o, boxes{1: nil})
}

// P25.2: Double puts a text behind all others of its inbox, and leaves it where it was.
func TestDouble(t *testing.T) {
	o := mail.New(1, 2)
	put(t, o, 1, "a", "b")
	put(t, o, 2, "z")
	checkError(t, "Double", o.Double(1, 0), 0)
	checkOffice(t, "of the first", o, boxes{1: {"a", "b", "a"}, 2: {"z"}})
	checkError(t, "Double", o.Double(1, 1), 0)
	checkError(t, "Double", o.Double(1, 3), 0)
	checkError(t, "Double", o.Double(2, 0), 0)
	checkOffice(t, "of the last", o, boxes{1: {"a", "b", "a", "b", "b"}, 2: {"z", "z"}})
	checkTaken(t, "of two", o, 1, 0, "a")
	checkOffice(t, "the other one is left", o, boxes{1: {"b", "a", "b", "b"}, 2: {"z", "z"}})
}

// P25.2: Turn turns one byte by exclusive or, by 0 none, and twice none.
func TestTurn(t *testing.T) {
	text := "\x00\x0f\xf0\xffend"
	for at := range len(text) {
		for by := range 256 {
			o := mail.New(1, 2)
			put(t, o, 1, "a", text, "b")
			checkError(t, "Turn", o.Turn(1, 1, at, byte(by)), 0)
			wanted := text[:at] + string([]byte{text[at] ^ byte(by)}) + text[at+1:]
			checkOffice(t, "turned", o, boxes{1: {"a", wanted, "b"}, 2: nil})
			checkError(t, "Turn", o.Turn(1, 1, at, byte(by)), 0)
			checkOffice(t, "turned twice", o, boxes{1: {"a", text, "b"}, 2: nil})
		}
	}
}

// P25.2: Swap lets two change places; one with itself, too.
func TestSwap(t *testing.T) {
	texts := []string{"a", "b", "c", "d"}
	for i := range texts {
		for k := range texts {
			o := mail.New(1, 2)
			put(t, o, 1, texts...)
			put(t, o, 2, texts...)
			checkError(t, "Swap", o.Swap(1, i, k), 0)
			wanted := slices.Clone(texts)
			wanted[i], wanted[k] = texts[k], texts[i]
			checkOffice(t, "swapped", o, boxes{1: wanted, 2: texts})
		}
	}
}

// P25.2: of no such name, text, byte, the first of these errors, and nothing is done.
func TestErrors(t *testing.T) {
	o := mail.New(1, 2)
	put(t, o, 1, "ab", "")
	for _, name := range []uint32{0, 3, math.MaxUint32} {
		for _, i := range []int{math.MinInt, -1, 0, 1, 2, math.MaxInt} {
			checkRefused(t, "Take of no name", o, func() error { return take(t, o, name, i) }, api.ErrName)
			checkRefused(t, "Double of no name", o, func() error { return o.Double(name, i) }, api.ErrName)
			checkRefused(t, "Turn of no name", o, func() error { return o.Turn(name, i, i, 1) }, api.ErrName)
			checkRefused(t, "Swap of no name", o, func() error { return o.Swap(name, i, 0) }, api.ErrName)
		}
		checkRefused(t, "Send of no name", o, func() error { return o.Send(name, "x") }, api.ErrName)
		checkRefused(t, "Put of no name", o, func() error { return o.Put(name, "x") }, api.ErrName)
	}
	for _, i := range []int{math.MinInt, math.MinInt32, -2, -1, 2, 3, 4096, math.MaxInt32, math.MaxInt} {
		checkRefused(t, "Take of none", o, func() error { return take(t, o, 1, i) }, api.ErrNone)
		checkRefused(t, "Double of none", o, func() error { return o.Double(1, i) }, api.ErrNone)
		checkRefused(t, "Swap of none", o, func() error { return o.Swap(1, i, 0) }, api.ErrNone)
		checkRefused(t, "Swap with none", o, func() error { return o.Swap(1, 0, i) }, api.ErrNone)
		checkRefused(t, "Swap of none with itself", o, func() error { return o.Swap(1, i, i) }, api.ErrNone)
		checkRefused(t, "Turn at no byte", o, func() error { return o.Turn(1, 0, i, 1) }, api.ErrRange)
		for _, at := range []int{math.MinInt, -1, 0, 1, 2, math.MaxInt} {
			checkRefused(t, "Turn of none", o, func() error { return o.Turn(1, i, at, 1) }, api.ErrNone)
		}
	}
	for _, at := range []int{-1, 0, 1} {
		checkRefused(t, "Turn of an empty one", o, func() error { return o.Turn(1, 1, at, 0) }, api.ErrRange)
	}
	checkRefused(t, "Take of an empty inbox", o, func() error { return take(t, o, 2, 0) }, api.ErrNone)
	none := mail.New()
	checkRefused(t, "Send in an office of none", none, func() error { return none.Send(0, "x") }, api.ErrName)
}

// P25.2: at most 4096 texts are in all inboxes together.
func TestMany(t *testing.T) {
	o := full(t, most-1, 1, 2, 3)
	checkRefused(t, "Send of two, where there is room for one", o, func() error { return o.Send(1, "x") }, api.ErrMany)
	checkError(t, "the last one, in another inbox", o.Put(2, "x"), 0)
	checkRefused(t, "Put of one more", o, func() error { return o.Put(3, "x") }, api.ErrMany)
	checkRefused(t, "Send of two more", o, func() error { return o.Send(2, "x") }, api.ErrMany)
	checkRefused(t, "Double", o, func() error { return o.Double(1, 0) }, api.ErrMany)
	checkRefused(t, "Double of none", o, func() error { return o.Double(3, 0) }, api.ErrMany)
	checkRefused(t, "Double of no name", o, func() error { return o.Double(4, 0) }, api.ErrName)
	checkRefused(t, "Put of no name", o, func() error { return o.Put(4, "x") }, api.ErrName)
	checkRefused(t, "Send of no name", o, func() error { return o.Send(4, "x") }, api.ErrName)
	checkError(t, "Turn", o.Turn(1, 0, 0, 1), 0)
	checkError(t, "Swap", o.Swap(1, 0, 1), 0)
	checkRefused(t, "Turn of none", o, func() error { return o.Turn(3, 0, 0, 1) }, api.ErrNone)
	checkTaken(t, "of all", o, 1, 1, "1")
	checkError(t, "Double behind Take", o.Double(2, 0), 0)
	checkTaken(t, "of all", o, 2, 0, "x")
	checkTaken(t, "of all", o, 2, 0, "x")
	checkError(t, "Send, where there is room for two", o.Send(1, "y"), 0)
	checkRefused(t, "Put behind Send", o, func() error { return o.Put(2, "x") }, api.ErrMany)
	checkRefused(t, "Put in a clone", o.Clone(), func() error { return o.Clone().Put(2, "x") }, api.ErrMany)
}

// P25.2: where nobody else is a text is sent to none, so that there are never more.
func TestManyOfOne(t *testing.T) {
	o := full(t, most, 1)
	checkError(t, "Send to nobody", o.Send(1, "x"), 0)
	checkRefused(t, "Put", o, func() error { return o.Put(1, "x") }, api.ErrMany)
	two := full(t, most-1, 1, 2)
	checkError(t, "Send of the last one", two.Send(1, "x"), 0)
	checkRefused(t, "Send of one more", two, func() error { return two.Send(1, "x") }, api.ErrMany)
}

// P25.1: what is done with a clone plays no part for the other one, and the other way round.
func TestClone(t *testing.T) {
	calls := []func(o *mail.Office) error{
		func(o *mail.Office) error { return o.Send(1, "x") },
		func(o *mail.Office) error { return o.Put(1, "x") },
		func(o *mail.Office) error { return take(t, o, 1, 0) },
		func(o *mail.Office) error { return o.Double(1, 1) },
		func(o *mail.Office) error { return o.Turn(1, 0, 0, 7) },
		func(o *mail.Office) error { return o.Swap(1, 0, 1) },
	}
	before := boxes{1: {"a", "b"}, 2: {"c"}, 3: nil}
	for i, call := range calls {
		o := mail.New(1, 2, 3)
		put(t, o, 1, "a", "b")
		put(t, o, 2, "c")
		c := o.Clone()
		checkOffice(t, "a clone", c, before)
		checkError(t, "of the clone", call(c), 0)
		checkOffice(t, fmt.Sprint("ahead of a clone's call ", i), o, before)
		c = o.Clone()
		checkError(t, "of the first one", call(o), 0)
		checkOffice(t, fmt.Sprint("a clone ahead of the call ", i), c, before)
	}
	o := mail.New(1, 2)
	put(t, o, 1, "a", "b", "c")
	c := o.Clone()
	put(t, o, 1, "d")
	put(t, c, 1, "e")
	checkOffice(t, "behind each one's own", o, boxes{1: {"a", "b", "c", "d"}, 2: nil})
	checkOffice(t, "behind each one's own", c, boxes{1: {"a", "b", "c", "e"}, 2: nil})
	checkOffice(t, "a clone of none", mail.New().Clone(), boxes{})
}

// P25.2: of nil.
func TestNil(t *testing.T) {
	var o *mail.Office
	if box, ok := o.Box(1); o.Clone() != nil || len(o.Names()) != 0 || ok || len(box) != 0 {
		t.Errorf("of nil: %v %v %v %v", o.Clone(), o.Names(), box, ok)
	}
	checkError(t, "Send", o.Send(0, "x"), api.ErrNil)
	checkError(t, "Put", o.Put(0, "x"), api.ErrNil)
	for _, i := range []int{math.MinInt, -1, 0, 1, math.MaxInt} {
		checkError(t, "Take", take(t, o, 0, i), api.ErrNil)
		checkError(t, "Double", o.Double(0, i), api.ErrNil)
		checkError(t, "Turn", o.Turn(0, i, i, 1), api.ErrNil)
		checkError(t, "Swap", o.Swap(0, i, i), api.ErrNil)
	}
}

// P25.3: what is sent is in each other inbox, as it was, whatever is done in other ones, or with other texts.
func TestSentIsThere(t *testing.T) {
	o := mail.New(1, 2, 3, 4)
	checkError(t, "Send", o.Send(1, "text"), 0)
	checkError(t, "Double", o.Double(2, 0), 0)
	checkError(t, "Turn", o.Turn(2, 0, 0, 1), 0)
	checkOffice(t, "one of two is turned", o, boxes{1: nil, 2: {"uext", "text"}, 3: {"text"}, 4: {"text"}})
	checkError(t, "Turn", o.Turn(2, 1, 3, 2), 0)
	checkTaken(t, "of another inbox", o, 4, 0, "text")
	checkError(t, "Send", o.Send(2, "more"), 0)
	checkOffice(t, "the third one's", o, boxes{1: {"more"}, 2: {"uext", "texv"}, 3: {"text", "more"}, 4: {"more"}})
	checkError(t, "Swap", o.Swap(3, 0, 1), 0)
	checkTaken(t, "what was sent", o, 3, 1, "text")
}

// What is handed in isn't kept, and an answer is new memory.
func TestMemory(t *testing.T) {
	names := []uint32{5, 6, 7, 8}
	o := mail.New(names[:3]...)
	if !slices.Equal(names, []uint32{5, 6, 7, 8}) {
		t.Errorf("the names that were handed in are %v", names)
	}
	clear(names)
	put(t, o, 5, "a", "b", "c")
	wanted := boxes{5: {"a", "b", "c"}, 6: nil, 7: nil}
	box, _ := o.Box(5)
	other, _ := o.Box(5)
	_ = append(box, "room")
	clear(box)
	if told := o.Names(); !slices.Equal(other, []string{"a", "b", "c"}) || len(told) != 3 {
		t.Errorf("another answer is %q, the names %v", other, told)
	} else {
		_ = append(told, 9)
		clear(told)
	}
	checkOffice(t, "behind a change of answers", o, wanted)
	put(t, o, 5, "d")
	checkTaken(t, "of some", o, 5, 0, "a")
	checkError(t, "Swap", o.Swap(5, 0, 1), 0)
	if !slices.Equal(other, []string{"a", "b", "c"}) {
		t.Errorf("behind other calls an answer is %q", other)
	}
}

// An error may be changed, and others stay as they are.
func TestErrorsAreNew(t *testing.T) {
	o := full(t, most, 1)
	for _, call := range []func() error{
		func() error { return (*mail.Office)(nil).Put(1, "") },
		func() error { return o.Send(2, "") },
		func() error { return o.Put(1, "") },
		func() error { return o.Double(1, 0) },
		func() error { return take(t, o, 1, -1) },
		func() error { return o.Swap(1, -1, 0) },
		func() error { return o.Turn(1, 0, 9, 1) },
	} {
		code := fault.Code(call())
		err := call()
		for f := (*fault.Fault)(nil); errors.As(err, &f); {
			err, f.Err = f.Err, nil
		}
		if got := fault.Code(call()); got != code || code == 0 {
			t.Errorf("behind another error was changed: Code is %v, wanted %v", got, code)
		}
	}
}

// model: an office, by the document's words alone.
type model struct{ boxes boxes }

// many: would there be more texts than there may be?
func (m model) many(more int) bool {
	for _, box := range m.boxes {
		more += len(box)
	}
	return more > most
}

// none: is there no such text?
func (m model) none(name uint32, i int) bool { return i < 0 || i >= len(m.boxes[name]) }

// do: a call, by its number; its error, and what it answers.
func (m model) do(call int, name uint32, i, k int, by byte, text string) (string, api.Errno) {
	box, ok := m.boxes[name]
	more := []int{len(m.boxes) - 1, 1, 0, 1, 0, 0}[call]
	switch {
	case !ok:
		return "", api.ErrName
	case m.many(more) && more > 0:
		return "", api.ErrMany
	case call >= 2 && m.none(name, i) || call == 5 && m.none(name, k):
		return "", api.ErrNone
	case call == 4 && (k < 0 || k >= len(box[i])):
		return "", api.ErrRange
	}
	switch call {
	case 0:
		for other := range m.boxes {
			if other != name {
				m.boxes[other] = append(slices.Clone(m.boxes[other]), text)
			}
		}
	case 1:
		m.boxes[name] = append(slices.Clone(box), text)
	case 2:
		m.boxes[name] = append(slices.Clone(box[:i]), box[i+1:]...)
		return box[i], 0
	case 3:
		m.boxes[name] = append(slices.Clone(box), box[i])
	case 4:
		m.boxes[name] = slices.Clone(box)
		m.boxes[name][i] = box[i][:k] + string([]byte{box[i][k] ^ by}) + box[i][k+1:]
	case 5:
		m.boxes[name] = slices.Clone(box)
		m.boxes[name][i], m.boxes[name][k] = box[k], box[i]
	}
	return "", 0
}

// ask: the same call, of an office.
func ask(o *mail.Office, call int, name uint32, i, k int, by byte, text string) (string, error) {
	switch call {
	case 0:
		return "", o.Send(name, text)
	case 1:
		return "", o.Put(name, text)
	case 2:
		return o.Take(name, i)
	case 3:
		return "", o.Double(name, i)
	case 4:
		return "", o.Turn(name, i, k, by)
	}
	return "", o.Swap(name, i, k)
}

// Whatever is done, in some order, is done as the words say; some offices are nearly full.
func TestAny(t *testing.T) {
	random := rand.New(rand.NewSource(25))
	for round := range 60 {
		o, m := mail.New(), model{boxes{}}
		if n := random.Intn(5); n > 0 {
			var names []uint32
			for i := range n {
				names = append(names, uint32(i+1))
				m.boxes[uint32(i+1)] = nil
			}
			o = mail.New(names...)
			if round%4 == 0 {
				for range most - random.Intn(4) {
					put(t, o, 1, "x")
				}
				m.boxes[1], _ = o.Box(1)
			}
		}
		for range 150 {
			call, name, by := random.Intn(6), uint32(random.Intn(6)), byte(random.Intn(256))
			i, k := random.Intn(6)-1, random.Intn(6)-1
			text := strings.Repeat("t", random.Intn(4)) + fmt.Sprint(by)[:random.Intn(2)]
			wanted, code := m.do(call, name, i, k, by, text)
			got, err := ask(o, call, name, i, k, by, text)
			what := fmt.Sprint("the call ", call, " of ", name, " ", i, " ", k)
			checkError(t, what, err, code)
			if got != wanted {
				t.Fatalf("%s: %q, wanted %q", what, got, wanted)
			}
			checkOffice(t, what, o, m.boxes)
			if random.Intn(10) == 0 {
				o = o.Clone()
			}
		}
	}
}
