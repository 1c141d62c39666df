package machine_test

import (
	"crypto/hkdf"
	"crypto/sha256"
	"fmt"
	"math"
	"slices"
	"strings"
	"testing"

	"sapwood/api"
	"sapwood/ct"
	"sapwood/derive"
	"sapwood/fault"
	"sapwood/group"
	"sapwood/machine"
	"sapwood/mail"
	"sapwood/script"
	"sapwood/state"
)

// The commands' numbers.
const (
	draw uint8 = iota
	seed
	publish
	create
	update
	deliver
	leave
	drop
	double
	turn
	swap
	put
	show
	all
)

// full: how many texts an office may have.
const full = 4096

// checkError: a call's error is of that number (0: it has none).
func checkError(t *testing.T, what string, err error, code api.Errno) {
	t.Helper()
	if fault.Code(err) != code || (err == nil) != (code == 0) {
		t.Errorf("%s: the error is %v, wanted %v", what, err, code)
	}
}

// fresh: a machine of n members.
func fresh(t *testing.T, n int) *machine.Machine {
	t.Helper()
	m, err := machine.New(n)
	checkError(t, "New", err, 0)
	if m == nil {
		t.Fatalf("New(%d) is nil", n)
	}
	return m
}

// op: a command of that number, with these numbers.
func op(op uint8, n ...int) script.Command { return script.Command{Op: op, N: n} }

// word: likewise, with a word.
func word(op uint8, word string, n ...int) script.Command {
	return script.Command{Op: op, N: n, Word: word}
}

// told: a command, for a message.
func told(c script.Command) string {
	return fmt.Sprintf("%d %v %.50q", c.Op, c.N, c.Word)
}

// checkDo: a command tells these lines.
func checkDo(t *testing.T, m *machine.Machine, c script.Command, wanted ...string) {
	t.Helper()
	if got := m.Do(c); !slices.Equal(got, wanted) {
		t.Errorf("Do of %s tells %.300q, wanted %.300q", told(c), got, wanted)
	}
}

// checkAll: each of these commands tells ok.
func checkAll(t *testing.T, m *machine.Machine, l ...script.Command) {
	t.Helper()
	for _, c := range l {
		checkDo(t, m, c, "ok")
	}
}

// fingerprint: all of a group that can be told, but what its draws are.
func fingerprint(g *group.Group) string {
	text := fmt.Sprint(g.N(), g.Left(), g.Record(), "\n")
	for name := range uint32(g.N()) {
		box, _ := g.Office().Box(name)
		text += fmt.Sprintf("%d: %x\n%x\n", name, state.Text(g.Member(name)), box)
	}
	return text
}

// checkDraws: the draws that are left are the same, as far as a member has room for them.
func checkDraws(t *testing.T, m *machine.Machine, g *group.Group) {
	t.Helper()
	a, b := m.Group(), g.Clone()
	n := min(b.Left(), api.MaxPrekeys-len(g.Member(0).Vault().IDs()))
	checkError(t, "Publish", a.Publish(0, n), 0)
	checkError(t, "Publish", b.Publish(0, n), 0)
	if fingerprint(a) != fingerprint(b) {
		t.Errorf("other draws are left")
	}
}

// checkGroup: a machine's group has what that one has.
func checkGroup(t *testing.T, what string, m *machine.Machine, g *group.Group) {
	t.Helper()
	if got, wanted := fingerprint(m.Group()), fingerprint(g); got != wanted {
		t.Fatalf("%s: the group is\n%.999s wanted\n%.999s", what, got, wanted)
	}
}

// checkBox: an inbox of a machine's group has these texts.
func checkBox(t *testing.T, what string, m *machine.Machine, name uint32, wanted ...string) {
	t.Helper()
	if box, ok := m.Group().Office().Box(name); !ok || !slices.Equal(box, wanted) {
		t.Errorf("%s: the inbox of %d is %.300q, wanted %.300q", what, name, box, wanted)
	}
}

// checkStill: a command that is refused with that word has changed nothing, not even the record.
func checkStill(t *testing.T, m *machine.Machine, c script.Command, word string) {
	t.Helper()
	before := fingerprint(m.Group())
	checkDo(t, m, c, "error "+word)
	if after := fingerprint(m.Group()); after != before {
		t.Errorf("Do of %s has changed the group:\n%.999s from\n%.999s", told(c), after, before)
	}
}

// met: a machine of n members that are all in one group, of the stage 0, with 5 draws left.
func met(t *testing.T, n int) *machine.Machine {
	t.Helper()
	m := fresh(t, n)
	checkAll(t, m, word(seed, "met", n+6))
	numbers := []int{0}
	for name := 1; name < n; name++ {
		checkAll(t, m, op(publish, name, 1))
		numbers = append(numbers, name)
	}
	checkAll(t, m, op(create, numbers...))
	for name := 1; name < n; name++ {
		checkAll(t, m, op(deliver, name, 0))
	}
	return m
}

// The example.
func TestExample(t *testing.T) {
	checkRun(t, "group 2\nall\n", "0 out", "1 out")
}

// P28.1: New is of a group without draws; its error is that of layer 26.
func TestNew(t *testing.T) {
	for n := 2; n <= 16; n++ {
		g, err := group.New(n)
		checkError(t, "group.New", err, 0)
		checkGroup(t, fmt.Sprint("New of ", n), fresh(t, n), g)
	}
	for _, n := range []int{math.MinInt, -2, -1, 0, 1, 17, 18, 1 << 32, 1<<32 + 2, math.MaxInt} {
		m, err := machine.New(n)
		checkError(t, fmt.Sprint("New of ", n), err, api.ErrSize)
		if m != nil {
			t.Errorf("New of %d: beside an error there is a machine", n)
		}
	}
}

// P28.1: Group is a clone, and its own.
func TestGroup(t *testing.T) {
	m := met(t, 3)
	a, before := m.Group(), fingerprint(m.Group())
	a.Draw(api.Key{1})
	checkError(t, "Update", a.Update(1), 0)
	checkError(t, "Leave", a.Leave(0), 0)
	if fingerprint(m.Group()) != before {
		t.Errorf("what was done with a clone is seen")
	}
	b := m.Group()
	checkAll(t, m, op(update, 2), op(leave, 1))
	if fingerprint(b) != before || fingerprint(m.Group()) == before {
		t.Errorf("what was done with the machine is seen in a clone, or not in the machine")
	}
}

// seeded: the i-th key of a word, by RFC 5869, of Go's own library.
func seeded(t *testing.T, word string, i int) api.Key {
	t.Helper()
	key, err := hkdf.Extract(sha256.New, []byte(word), []byte("sapwood draw"))
	checkError(t, "Extract", err, 0)
	k, err := hkdf.Expand(sha256.New, key, string([]byte{byte(i)}), 32)
	checkError(t, "Expand", err, 0)
	return api.Key(k)
}

// P28.1: Seed's keys are labels of the word, each of its place; there are no more than 64.
func TestSeed(t *testing.T) {
	for _, word := range []string{"", "abc", "a b\n", "\xff\x00", strings.Repeat("long", 999)} {
		var wanted []api.Key
		for i := range 64 {
			k := seeded(t, word, i)
			if k != derive.Label("sapwood draw", word, string([]byte{byte(i)})) {
				t.Errorf("layer 10 has another label than RFC 5869")
			}
			wanted = append(wanted, k)
		}
		for _, n := range []int{math.MinInt, -64, -1, 0, 1, 2, 63, 64, 65, 99, 256, 257, 1 << 32, math.MaxInt} {
			if got := machine.Seed(word, n); !slices.Equal(got, wanted[:min(64, max(0, n))]) {
				t.Errorf("Seed(%.20q, %d) has %d keys, %.300x", word, n, len(got), got)
			}
		}
	}
	a := machine.Seed("abc", 2)
	a[0] = api.Key{}
	if b := machine.Seed("abc", 2); b[0] != seeded(t, "abc", 0) {
		t.Errorf("Seed hands out what it keeps")
	}
}

// P28.2: draw and seed put draws behind all others; both tell ok, and are not recorded.
func TestDraws(t *testing.T) {
	m := fresh(t, 2)
	g, _ := group.New(2)
	l := append([]api.Key{{9}, {9}}, machine.Seed("x", 3)...)
	checkAll(t, m, script.Command{Op: draw, Key: api.Key{9}}, script.Command{Op: draw, Key: api.Key{9}}, word(seed, "x", 3), word(seed, "none", 0))
	g.Draw(l...)
	checkGroup(t, "two draws and three", m, g)
	checkDraws(t, m, g)
	checkAll(t, m, script.Command{Op: draw}, word(seed, "y", 99), word(seed, "y", -1), word(seed, "", 1))
	g.Draw(api.Key{})
	g.Draw(append(machine.Seed("y", 64), machine.Seed("", 1)...)...)
	if n := m.Group().Left(); n != 71 {
		t.Errorf("%d draws are left, wanted 71", n)
	}
	checkGroup(t, "many draws", m, g)
	checkDraws(t, m, g)
	checkAll(t, m, op(publish, 1, 60))
	checkError(t, "Publish", g.Publish(1, 60), 0)
	checkGroup(t, "the last draws", m, g)
	checkDraws(t, m, g)
	if len(m.Group().Record()) != 1 {
		t.Errorf("the record is %v", m.Group().Record())
	}
}

// P28.2: publish, create, update, deliver and leave are layer 26's calls, with their numbers in order.
func TestCalls(t *testing.T) {
	m := fresh(t, 4)
	g, _ := group.New(4)
	step := func(what string, c script.Command, err error) {
		t.Helper()
		checkError(t, what, err, 0)
		checkDo(t, m, c, "ok")
		checkGroup(t, what, m, g)
	}
	g.Draw(machine.Seed("w", 12)...)
	step("seed", word(seed, "w", 12), nil)
	step("publish", op(publish, 1, 3), g.Publish(1, 3))
	step("publish", op(publish, 3, 1), g.Publish(3, 1))
	step("publish of none", op(publish, 3, 0), g.Publish(3, 0))
	step("create", op(create, 0, 3, 1), g.Create(0, 3, 1))
	step("deliver", op(deliver, 1, 0), g.Deliver(1, 0))
	step("deliver", op(deliver, 3, 0), g.Deliver(3, 0))
	step("update", op(update, 3), g.Update(3))
	step("deliver", op(deliver, 0, 0), g.Deliver(0, 0))
	step("deliver", op(deliver, 1, 0), g.Deliver(1, 0))
	step("update", op(update, 1), g.Update(1))
	step("update", op(update, 1), g.Update(1))
	step("deliver", op(deliver, 0, 0), g.Deliver(0, 0))
	step("leave", op(leave, 0), g.Leave(0))
	step("create by another one", op(create, 2, 1), g.Create(2, 1))
	if code := fault.Code(g.Deliver(3, 1)); code != api.ErrStage {
		t.Errorf("Deliver: the error is %v", code)
	}
	checkDo(t, m, op(deliver, 3, 1), "error stage")
	checkGroup(t, "deliver of the second text", m, g)
}

// P28.2: drop, double, turn and swap are done to the inbox of the first number's name, with the other numbers.
func TestTamper(t *testing.T) {
	m := fresh(t, 3)
	checkAll(t, m, word(put, "a", 1), word(put, "bcd", 1), word(put, "e", 1), word(put, "zz", 2))
	checkBox(t, "put", m, 1, "a", "bcd", "e")
	checkAll(t, m, op(double, 1, 1))
	checkBox(t, "double", m, 1, "a", "bcd", "e", "bcd")
	checkAll(t, m, op(turn, 1, 3, 2, 1))
	checkBox(t, "turn", m, 1, "a", "bcd", "e", "bce")
	checkAll(t, m, op(swap, 1, 0, 3))
	checkBox(t, "swap", m, 1, "bce", "bcd", "e", "a")
	checkAll(t, m, op(drop, 1, 2))
	checkBox(t, "drop", m, 1, "bce", "bcd", "a")
	checkBox(t, "all that", m, 0)
	checkBox(t, "all that", m, 2, "zz")
	checkAll(t, m, op(swap, 1, 1, 1), op(drop, 2, 0), op(double, 1, 2), op(drop, 1, 0))
	checkBox(t, "more", m, 1, "bcd", "a", "a")
	checkBox(t, "more", m, 2)
	var wanted []group.Entry
	for _, name := range []uint32{1, 1, 1, 2, 1, 1, 1, 1, 1, 2, 1, 1} {
		wanted = append(wanted, group.Entry{Call: "tamper", Name: name})
	}
	if got := m.Group().Record(); !slices.Equal(got, wanted) {
		t.Errorf("the record is %v, wanted %v", got, wanted)
	}
}

// P28.2: of turn the last number is taken modulo 256.
func TestTurn(t *testing.T) {
	for by, wanted := range map[int]byte{0: 0, 1: 1, 255: 255, 256: 0, 257: 1, 511: 255, 1 << 31: 0, 1<<40 + 7: 7, -1: 255, -256: 0, -255: 1, math.MaxInt: 255, math.MinInt: 0} {
		m := fresh(t, 2)
		checkAll(t, m, word(put, "x00~", 0), op(turn, 0, 0, 3, by))
		checkBox(t, fmt.Sprint("turned by ", by), m, 0, "x00"+string([]byte{'~' ^ wanted}))
	}
}

// P28.2: of put the word's bytes to the base 16, or its own ones, where it isn't such.
func TestPut(t *testing.T) {
	for text, wanted := range map[string]string{
		"00": "\x00", "ff": "\xff", "FF": "\xff", "fF": "\xff", "6162": "ab", "0a0B": "\n\v", "DEADbeef": "\xde\xad\xbe\xef", "0123456789abcdef": "\x01\x23\x45\x67\x89\xab\xcd\xef",
		"": "", "0": "0", "f": "f", "616": "616", "fff": "fff", "6g": "6g", "g6": "g6", "616263xx": "616263xx", "xx616263": "xx616263", "hello!": "hello!",
		"0x61": "0x61", "0X61": "0X61", "+1": "+1", "-1": "-1", "1_": "1_", "_1": "_1", "6_61": "6_61", "0b11": "\x0b\x11", "a b ": "a b ", "6\n": "6\n", "\xff\xff": "\xff\xff", "\u0661": "\u0661", "@A": "@A", "`a": "`a", "/0": "/0", ":0": ":0", "G0": "G0",
		strings.Repeat("61", 5000): strings.Repeat("a", 5000), strings.Repeat("61", 5000) + "6": strings.Repeat("61", 5000) + "6",
	} {
		m := fresh(t, 2)
		checkAll(t, m, word(put, text, 1))
		checkBox(t, fmt.Sprintf("put of %.20q", text), m, 1, wanted)
		checkBox(t, "another inbox", m, 0)
	}
}

// P28.2: an error is told by its number's word, whichever call has it, and is recorded.
func TestErrors(t *testing.T) {
	m := met(t, 3)
	checkAll(t, m, op(update, 0))
	steps := []struct {
		c    script.Command
		call string
		code api.Errno
	}{
		{op(publish, 3, 1), "publish", api.ErrName}, {op(publish, 1, 99), "publish", api.ErrDraw}, {op(publish, 1, -1), "publish", api.ErrRange},
		{op(create, 0, 3), "create", api.ErrName}, {op(create, 3, 1), "create", api.ErrName}, {op(create, 1, 0), "create", api.ErrNone}, {op(create, 0, 1), "create", api.ErrState},
		{op(update, 3), "update", api.ErrName}, {op(deliver, 3, 0), "deliver", api.ErrName}, {op(deliver, 1, 1), "deliver", api.ErrNone}, {op(deliver, 1, -1), "deliver", api.ErrNone},
		{op(leave, 3), "leave", api.ErrName}, {op(leave, 2), "leave", 0}, {op(leave, 2), "leave", api.ErrState}, {op(deliver, 2, 0), "deliver", api.ErrState},
		{op(drop, 3, 0), "tamper", api.ErrName}, {op(drop, 1, 1), "tamper", api.ErrNone}, {op(drop, 1, -1), "tamper", api.ErrNone},
		{op(double, 3, 0), "tamper", api.ErrName}, {op(double, 1, 1), "tamper", api.ErrNone},
		{op(turn, 3, 0, 0, 0), "tamper", api.ErrName}, {op(turn, 1, 1, 0, 0), "tamper", api.ErrNone}, {op(turn, 1, 0, 9999, 0), "tamper", api.ErrRange}, {op(turn, 1, 0, -1, 0), "tamper", api.ErrRange},
		{op(swap, 3, 0, 0), "tamper", api.ErrName}, {op(swap, 1, 0, 1), "tamper", api.ErrNone}, {op(swap, 1, 1, 0), "tamper", api.ErrNone},
		{word(put, "x", 3), "tamper", api.ErrName}, {word(put, "x", 1), "tamper", 0}, {op(deliver, 1, 1), "deliver", api.ErrKind}, {word(put, "xx03", 1), "tamper", 0}, {op(deliver, 1, 1), "deliver", api.ErrKind},
		{word(put, "0103", 1), "tamper", 0}, {op(deliver, 1, 1), "deliver", api.ErrTruncated}, {op(turn, 1, 0, 72, 4), "tamper", 0}, {op(double, 1, 0), "tamper", 0}, {op(deliver, 1, 0), "deliver", api.ErrMAC},
		{op(turn, 1, 0, 72, 4), "tamper", 0}, {op(double, 1, 0), "tamper", 0}, {op(deliver, 1, 0), "deliver", 0}, {op(deliver, 1, 0), "deliver", api.ErrStage},
		{op(update, 1), "update", 0}, {op(update, 1), "update", 0}, {op(update, 1), "update", api.ErrDraw}, // the two of create are gone, too
	}
	for _, s := range steps {
		before := m.Group().Record()
		line := "ok"
		if s.code != 0 {
			line = "error " + s.code.Error()
		}
		checkDo(t, m, s.c, line)
		name := uint32(s.c.N[0])
		if got := m.Group().Record(); !slices.Equal(got, append(before, group.Entry{Call: s.call, Name: name, Code: s.code})) {
			t.Errorf("behind %s the record ends with %v, wanted %s %d %v", told(s.c), got[len(before):], s.call, name, s.code)
		}
	}
}

// P28.2: where the office is full, put and double tell so.
func TestFull(t *testing.T) {
	m := fresh(t, 2)
	for range full {
		if got := m.Do(word(put, "x", 1)); len(got) != 1 || got[0] != "ok" {
			t.Fatalf("put tells %q", got)
		}
	}
	checkDo(t, m, word(put, "x", 0), "error many")
	checkDo(t, m, op(double, 1, 0), "error many")
	checkDo(t, m, op(double, 2, 0), "error name")
	checkAll(t, m, op(drop, 1, 7), op(double, 1, 0))
	checkDo(t, m, op(double, 1, 0), "error many")
}

// needs: how many numbers each command's line has at least.
func needs() map[uint8]int {
	return map[uint8]int{draw: 0, seed: 1, publish: 2, create: 2, update: 1, deliver: 2, leave: 1, drop: 2, double: 2, turn: 4, swap: 3, put: 1, show: 1, all: 0}
}

// P28.2: an Op above 13, or too few numbers, is error form, and nothing else.
func TestForm(t *testing.T) {
	m := met(t, 2)
	checkAll(t, m, op(update, 0), op(double, 1, 0))
	for _, above := range []uint8{14, 15, 16, 127, 128, 200, 255} {
		checkStill(t, m, op(above), "form")
		checkStill(t, m, word(above, "x", 1, 0, 0, 0, 0, 0), "form")
	}
	for o, n := range needs() {
		for few := range n {
			checkStill(t, m, word(o, "x", make([]int, few)...), "form")
			checkStill(t, m, word(o, "x", slices.Repeat([]int{99}, few)...), "form")
		}
	}
}

// P28.2: numbers beyond those that a command's line has play no part, but of create.
func TestBeyond(t *testing.T) {
	for o, n := range needs() {
		if o == create {
			continue
		}
		a, b := met(t, 2), met(t, 2)
		checkAll(t, a, op(update, 0), op(double, 1, 0))
		checkAll(t, b, op(update, 0), op(double, 1, 0))
		numbers := []int{1, 0, 1, 1}[:n]
		c, more := word(o, "x", numbers...), word(o, "x", append(slices.Clone(numbers), -1, 99, 0)...)
		wanted := a.Do(c)
		checkDo(t, b, more, wanted...)
		checkGroup(t, fmt.Sprint("numbers beyond those of ", o), b, a.Group())
		if strings.HasPrefix(wanted[0], "error") {
			t.Errorf("the test itself is wrong: Do of %s tells %q", told(c), wanted)
		}
	}
	m := fresh(t, 3)
	checkAll(t, m, word(seed, "x", 9), op(publish, 1, 1), op(publish, 2, 1))
	checkDo(t, m, op(create, 0, 1, 2, 3), "error name")
	checkDo(t, m, op(create, 0, 1, 2, 2), "error name")
	checkAll(t, m, op(create, 0, 1, 2))
	checkDo(t, m, op(show, 0), "0 in 0 0 3 "+ct.Hex(m.Group().Member(0).Link().Key))
}

// P28.2: a key and a word play no part where there are none.
func TestNoPart(t *testing.T) {
	a, b := met(t, 2), met(t, 2)
	for _, c := range []script.Command{{Op: draw, Key: api.Key{5}}, word(seed, "x", 3), op(publish, 1, 1), op(update, 0), op(deliver, 1, 0), op(update, 1), op(double, 0, 0), op(turn, 0, 0, 0, 1), op(swap, 0, 0, 1), op(drop, 0, 0), op(leave, 0), op(create, 0, 1), word(put, "x", 1), op(show, 1), op(all)} {
		other := c
		other.Line = 77
		if c.Op != draw {
			other.Key = api.Key{1, 2, 3}
		}
		if c.Op != seed && c.Op != put {
			other.Word = "a b"
		}
		checkDo(t, b, other, a.Do(c)...)
		checkGroup(t, "behind "+told(c), b, a.Group())
	}
}

// P28.2: a number that is no name of 32 bits is as the greatest one, of which there is no member; never another one's.
func TestNames(t *testing.T) {
	const greatest = math.MaxUint32
	m := met(t, 2)
	checkAll(t, m, op(update, 0))
	for _, n := range []int{-1, -2, -1 << 32, -1<<32 + 1, math.MinInt, greatest, greatest + 1, greatest + 2, 1 << 40, 1<<40 + 1, math.MaxInt} {
		for _, c := range []script.Command{op(publish, n, 1), op(create, n, 1), op(update, n), op(deliver, n, 0), op(leave, n), op(drop, n, 0), op(double, n, 0), op(turn, n, 0, 0, 0), op(swap, n, 0, 0), word(put, "x", n)} {
			checkDo(t, m, c, "error name")
			record := m.Group().Record()
			if e := record[len(record)-1]; e.Name != greatest || e.Code != api.ErrName {
				t.Errorf("behind %s the record ends with %v", told(c), e)
			}
		}
		checkDo(t, m, op(create, 0, n), "error name")
		checkDo(t, m, op(create, 0, 1, n), "error name")
		checkDo(t, m, op(show, n), "4294967295 none")
	}
	for _, n := range []int{2, 16, 1 << 31, greatest - 1} {
		checkDo(t, m, op(leave, n), "error name")
		record := m.Group().Record()
		if e := record[len(record)-1]; e.Name != uint32(n) {
			t.Errorf("behind leave %d the record ends with %v", n, e)
		}
		checkDo(t, m, op(show, n), fmt.Sprint(n, " none"))
	}
}

// P28.2, P28.3: show tells a member, all each of them, rising; both change nothing.
func TestShow(t *testing.T) {
	m := fresh(t, 12)
	before := fingerprint(m.Group())
	var out []string
	for name := range 12 {
		out = append(out, fmt.Sprint(name, " out"))
		checkDo(t, m, op(show, name), out[name])
	}
	checkDo(t, m, op(all), out...)
	checkDo(t, m, op(show, 12), "12 none")
	if fingerprint(m.Group()) != before {
		t.Errorf("show or all has changed the group")
	}
	m = met(t, 3)
	checkAll(t, m, op(update, 1), op(deliver, 0, 0), op(update, 0), op(leave, 2))
	g := m.Group()
	key := func(name uint32) string { return fmt.Sprintf("%x", g.Member(name).Link().Key) }
	wanted := []string{"0 in 2 0 3 " + key(0), "1 in 1 1 3 " + key(1), "2 out"}
	checkDo(t, m, op(all), wanted...)
	for name, line := range wanted {
		checkDo(t, m, op(show, name), line)
		if got := machine.Show(g, uint32(name)); got != line {
			t.Errorf("Show is %q, wanted %q", got, line)
		}
	}
}

// P28.3: Show of no such member, and of a nil group.
func TestShowNone(t *testing.T) {
	g, err := group.New(2)
	checkError(t, "group.New", err, 0)
	for _, name := range []uint32{0, 1, 2, 9, 16, 1 << 31, math.MaxUint32} {
		if got, wanted := machine.Show(nil, name), fmt.Sprint(name, " none"); got != wanted {
			t.Errorf("Show of nil is %q, wanted %q", got, wanted)
		}
		if got, wanted := machine.Show(g, name), fmt.Sprint(name, " none"); name > 1 && got != wanted {
			t.Errorf("Show is %q, wanted %q", got, wanted)
		}
	}
}

// P28.3: Show tells a member's own leaf and stage, of a group of a seat's order, not of names.
func TestShowLeaf(t *testing.T) {
	m := fresh(t, 5)
	checkAll(t, m, word(seed, "x", 20), op(publish, 0, 1), op(publish, 1, 1), op(publish, 4, 1), op(create, 2, 4, 0, 1))
	checkAll(t, m, op(deliver, 0, 0), op(deliver, 4, 0))
	key := ct.Hex(m.Group().Member(2).Link().Key)
	checkDo(t, m, op(all), "0 in 0 2 4 "+key, "1 out", "2 in 0 0 4 "+key, "3 out", "4 in 0 1 4 "+key)
}

// P28.2, P28.3: of a nil machine Group is nil, and Do nothing.
func TestNil(t *testing.T) {
	var m *machine.Machine
	if m.Group() != nil {
		t.Errorf("Group of nil is something")
	}
	for o := range 256 {
		for n := range 6 {
			if got := m.Do(word(uint8(o), "x", make([]int, n)...)); len(got) != 0 {
				t.Errorf("Do of nil tells %q", got)
			}
		}
	}
}

// What a command has stays as it was, and isn't kept; what is told is one's own.
func TestMemory(t *testing.T) {
	m := met(t, 3)
	numbers := [5]int{0, 1, 2, 77, 78}
	checkDo(t, m, script.Command{Op: create, N: numbers[:3]}, "error state")
	checkAll(t, m, op(leave, 0), word(seed, "more", 9), op(publish, 1, 1), op(publish, 2, 1), script.Command{Op: create, N: numbers[:3]})
	if numbers != [5]int{0, 1, 2, 77, 78} {
		t.Errorf("what was handed in is %v", numbers)
	}
	lines := m.Do(op(all))
	wanted := slices.Clone(lines)
	lines[0], lines[1] = "x", "y"
	checkDo(t, m, op(all), wanted...)
	list := m.Do(op(update, 9))
	list[0] = "x"
	checkDo(t, m, op(update, 9), "error name")
}

// P28.2: what is done to the office is done to it, in the machine's own group alone.
func TestOwn(t *testing.T) {
	a, b := fresh(t, 2), fresh(t, 2)
	checkAll(t, a, word(put, "x", 1), word(seed, "x", 2))
	checkBox(t, "of one machine", a, 1, "x")
	checkBox(t, "of another one", b, 1)
	g := a.Group()
	checkError(t, "Tamper", g.Tamper(1, func(o *mail.Office) error { return o.Put(1, "y") }), 0)
	checkBox(t, "behind a clone's", a, 1, "x")
	if b.Group().Left() != 0 {
		t.Errorf("another machine has %d draws", b.Group().Left())
	}
}
