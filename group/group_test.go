package group_test

import (
	"errors"
	"fmt"
	"math"
	"slices"
	"testing"

	"sapwood/api"
	"sapwood/bundle"
	"sapwood/fault"
	"sapwood/group"
	"sapwood/mail"
	"sapwood/member"
	"sapwood/state"
)

// full: how many texts an office may have.
const full = 4096

// keys: some draws, each of its number.
func keys(from, n int) []api.Key {
	var list []api.Key
	for i := range n {
		list = append(list, api.Key{byte(from + i), byte((from + i) >> 8), 31: 7})
	}
	return list
}

// checkError: a call's error is of that number (0: it has none).
func checkError(t *testing.T, what string, err error, code api.Errno) {
	t.Helper()
	if fault.Code(err) != code || (err == nil) != (code == 0) {
		t.Errorf("%s: the error is %v, wanted %v", what, err, code)
	}
}

// grown: a group of n, with so many draws.
func grown(t *testing.T, n, draws int) *group.Group {
	t.Helper()
	g, err := group.New(n, keys(1, draws)...)
	checkError(t, "New", err, 0)
	return g
}

// boxes: all inboxes of an office.
func boxes(o *mail.Office) string {
	var text string
	for _, name := range o.Names() {
		box, _ := o.Box(name)
		text += fmt.Sprintf("%d %x\n", name, box)
	}
	return text
}

// members: what all members of a group have.
func members(g *group.Group) string {
	text := fmt.Sprint(g.N(), "\n")
	for name := range uint32(g.N()) {
		text += fmt.Sprintf("%x\n", state.Text(g.Member(name)))
	}
	return text
}

// published: which bundle each member has published last (as another one sends the setup that comes of it).
func published(g *group.Group) string {
	var text string
	for name := range uint32(g.N()) {
		c := g.Clone()
		maker := (name + 1) % uint32(g.N())
		_ = c.Leave(maker)
		for c.Left() > 0 {
			_ = c.Update(maker) // it is in no group: the draw is gone
		}
		c.Draw(keys(900, 2)...)
		text += fmt.Sprintf("%d %v %x\n", name, fault.Code(c.Create(maker, name)), state.Text(c.Member(maker)))
	}
	return text
}

// left: the draws that are left, as the member 0 publishes them; it has room for so many prekeys.
func left(t *testing.T, g *group.Group) []api.Key {
	t.Helper()
	c := g.Clone()
	n, has := g.Left(), len(g.Member(0).Vault().IDs())
	checkError(t, "Publish", c.Publish(0, n), 0)
	if c.Left() != 0 {
		t.Errorf("%d are left behind all", c.Left())
	}
	return c.Member(0).Vault().Secrets()[has:]
}

// checkRecorded: the last call was recorded so, behind these entries.
func checkRecorded(t *testing.T, what string, g *group.Group, before []group.Entry, e group.Entry) {
	t.Helper()
	if got := g.Record(); !slices.Equal(got, append(slices.Clone(before), e)) {
		t.Errorf("%s: the record is %v, wanted %v behind %v", what, got, e, before)
	}
}

// checkDone: a call of that word and name is done, and recorded.
func checkDone(t *testing.T, g *group.Group, word string, name uint32, call func(g *group.Group) error) {
	t.Helper()
	before := g.Record()
	checkError(t, fmt.Sprint(word, " ", name), call(g), 0)
	checkRecorded(t, word, g, before, group.Entry{Call: word, Name: name})
}

// checkRefused: a call has that error, which is recorded; so many draws are gone; and nothing else of the group is changed.
func checkRefused(t *testing.T, g *group.Group, word string, name uint32, call func(g *group.Group) error, code api.Errno, gone int) {
	t.Helper()
	what := fmt.Sprint(word, " ", name, ", ", code)
	record, has, waits, told, draws := g.Record(), members(g), boxes(g.Office()), published(g), g.Left()
	checkError(t, what, call(g), code)
	checkRecorded(t, what, g, record, group.Entry{Call: word, Name: name, Code: code})
	if members(g) != has || boxes(g.Office()) != waits || published(g) != told {
		t.Errorf("%s: the members were\n%.999s and are\n%.999s the inboxes\n%.999s and\n%.999s the bundles\n%.999s and\n%.999s", what, has, members(g), waits, boxes(g.Office()), told, published(g))
	}
	if g.Left() != draws-gone || code == 0 {
		t.Errorf("%s: of %d draws %d are left", what, draws, g.Left())
	}
}

// The calls, as functions of a group.
func publish(name uint32, n int) func(*group.Group) error {
	return func(g *group.Group) error { return g.Publish(name, n) }
}

func create(name uint32, others ...uint32) func(*group.Group) error {
	return func(g *group.Group) error { return g.Create(name, others...) }
}

func update(name uint32) func(*group.Group) error {
	return func(g *group.Group) error { return g.Update(name) }
}

func deliver(name uint32, i int) func(*group.Group) error {
	return func(g *group.Group) error { return g.Deliver(name, i) }
}

func leave(name uint32) func(*group.Group) error {
	return func(g *group.Group) error { return g.Leave(name) }
}

func tamper(name uint32, do func(*mail.Office) error) func(*group.Group) error {
	return func(g *group.Group) error { return g.Tamper(name, do) }
}

// met: a group of n, all of whose members are in one, of the stage 0; the first one made it.
func met(t *testing.T, n int) *group.Group {
	t.Helper()
	g := grown(t, n, 2*(n-1)+2)
	var others []uint32
	for name := range uint32(n) {
		if name > 0 {
			checkDone(t, g, "publish", name, publish(name, 2))
			others = append(others, name)
		}
	}
	checkDone(t, g, "create", 0, create(0, others...))
	for _, name := range others {
		checkDone(t, g, "deliver", name, deliver(name, 0))
	}
	checkMet(t, g, 0)
	return g
}

// checkMet: all members have one link, of that stage.
func checkMet(t *testing.T, g *group.Group, stage uint32) {
	t.Helper()
	for name := range uint32(g.N()) {
		m := g.Member(name)
		if !m.In() || m.Link() != g.Member(0).Link() || m.Link().Stage != stage {
			t.Fatalf("%d of %d has the link %x, wanted %x of the stage %d", name, g.N(), m.Link(), g.Member(0).Link(), stage)
		}
	}
}

// checkBox: of an inbox.
func checkBox(t *testing.T, g *group.Group, name uint32, wanted ...string) {
	t.Helper()
	if box, ok := g.Office().Box(name); !ok || !slices.Equal(box, wanted) {
		t.Errorf("the inbox of %d is %x, %v, wanted %x", name, box, ok, wanted)
	}
}

// filled: an office is full, but for so many texts, which are in that inbox.
func filled(to uint32, but int) func(*mail.Office) error {
	return func(o *mail.Office) error {
		n := full - but
		for _, name := range o.Names() {
			box, _ := o.Box(name)
			n -= len(box)
		}
		for range n {
			if err := o.Put(to, "x"); err != nil {
				return err
			}
		}
		return nil
	}
}

// The example.
func TestExample(t *testing.T) {
	g := grown(t, 2, 4)
	checkDone(t, g, "publish", 1, publish(1, 1))
	checkDone(t, g, "create", 0, create(0, 1))
	checkDone(t, g, "deliver", 1, deliver(1, 0))
	checkDone(t, g, "update", 1, update(1))
	checkDone(t, g, "deliver", 0, deliver(0, 0))
	checkMet(t, g, 1)
	if g.Left() != 0 || len(g.Record()) != 5 {
		t.Errorf("%d draws are left, and %d entries are there", g.Left(), len(g.Record()))
	}
}

// P26.1: New has from 2 to 16 members, new ones, with empty inboxes.
func TestNew(t *testing.T) {
	for _, n := range []int{math.MinInt, -2, -1, 0, 1, 17, 18, 1024, math.MaxInt} {
		g, err := group.New(n, keys(1, 3)...)
		checkError(t, fmt.Sprint("New ", n), err, api.ErrSize)
		if g != nil {
			t.Errorf("beside an error there is a group of %d", n)
		}
	}
	for n := 2; n <= 16; n++ {
		for _, draws := range []int{0, 1, 5} {
			g := grown(t, n, draws)
			if g.N() != n || g.Left() != draws || len(g.Record()) != 0 || len(g.Office().Names()) != n {
				t.Errorf("%d, %d: N %d, Left %d, Record %v, Names %v", n, draws, g.N(), g.Left(), g.Record(), g.Office().Names())
			}
			if got := left(t, g); !slices.Equal(got, keys(1, draws)) {
				t.Errorf("the draws are %x", got)
			}
			for name := range uint32(n) {
				checkBox(t, g, name)
				if !state.Same(g.Member(name), member.New(name)) {
					t.Errorf("the member %d is %x", name, state.Text(g.Member(name)))
				}
			}
			for _, name := range []uint32{uint32(n), 17, 1 << 31, math.MaxUint32} {
				if g.Member(name) != nil {
					t.Errorf("of %d there is a member %d", n, name)
				}
			}
		}
	}
}

// P26.1: Draw puts draws behind all others, and isn't recorded.
func TestDraw(t *testing.T) {
	g := grown(t, 2, 2)
	g.Draw()
	g.Draw(keys(3, 1)...)
	checkDone(t, g, "publish", 0, publish(0, 1))
	g.Draw(keys(4, 3)...)
	if got := left(t, g); !slices.Equal(got, keys(2, 5)) || len(g.Record()) != 1 {
		t.Errorf("the draws are %x, the record %v", got, g.Record())
	}
	none := grown(t, 2, 0)
	none.Draw(keys(7, 2)...)
	if got := left(t, none); !slices.Equal(got, keys(7, 2)) {
		t.Errorf("the draws are %x", got)
	}
}

// P26.2: Publish publishes the next draws, so that what the member tells is its bundle.
func TestPublish(t *testing.T) {
	g := grown(t, 3, 9)
	m := member.New(1)
	from := 1
	for _, n := range []int{2, 0, 1, 3} {
		checkDone(t, g, "publish", 1, publish(1, n))
		_, err := m.Publish(keys(from, n)...)
		checkError(t, "Publish", err, 0)
		from += n
		if !state.Same(g.Member(1), m) || !slices.Equal(left(t, g), keys(from, 10-from)) {
			t.Fatalf("the member is %x, wanted %x; the draws are %x", state.Text(g.Member(1)), state.Text(m), left(t, g))
		}
	}
	if !state.Same(g.Member(0), member.New(0)) || !state.Same(g.Member(2), member.New(2)) || boxes(g.Office()) != boxes(mail.New(0, 1, 2)) {
		t.Errorf("the others are\n%s", members(g))
	}
}

// P26.2: of Publish the first error.
func TestPublishErrors(t *testing.T) {
	g := grown(t, 2, 70)
	for _, name := range []uint32{2, 16, math.MaxUint32} {
		for _, n := range []int{-1, 0, 1, 100} {
			checkRefused(t, g, "publish", name, publish(name, n), api.ErrName, 0)
		}
	}
	for _, n := range []int{math.MinInt, -1} {
		checkRefused(t, g, "publish", 0, publish(0, n), api.ErrRange, 0)
	}
	for _, n := range []int{71, math.MaxInt} {
		checkRefused(t, g, "publish", 0, publish(0, n), api.ErrDraw, 0)
	}
	checkDone(t, g, "publish", 0, publish(0, 62))
	checkRefused(t, g, "publish", 0, publish(0, 3), api.ErrMany, 3)
	checkRefused(t, g, "publish", 0, publish(0, 6), api.ErrDraw, 0)
	checkDone(t, g, "publish", 0, publish(0, 2))
	checkRefused(t, g, "publish", 0, publish(0, 1), api.ErrMany, 1)
	checkDone(t, g, "publish", 0, publish(0, 0))
	checkDone(t, g, "publish", 1, publish(1, 2))
	checkRefused(t, g, "publish", 1, publish(1, 1), api.ErrDraw, 0)
	if secrets := g.Member(1).Vault().Secrets(); !slices.Equal(secrets, keys(69, 2)) {
		t.Errorf("behind refused ones the draws are %x", secrets)
	}
}

// P26.2: Create makes a group of the others' bundles, in order, and the setup is sent to all, whether it is of them or not.
func TestCreate(t *testing.T) {
	g := grown(t, 5, 8)
	p := []string{}
	for i, n := range []int{2, 1, 3} {
		name := uint32(i + 1)
		checkDone(t, g, "publish", name, publish(name, n))
		m := member.New(name)
		text, err := m.Publish(keys(1+[]int{0, 2, 3}[i], n)...)
		checkError(t, "Publish", err, 0)
		p = append(p, text)
	}
	maker := member.New(4)
	setup, err := maker.Create(keys(7, 1)[0], keys(8, 1)[0], p[2], p[0])
	checkError(t, "Create", err, 0)
	checkDone(t, g, "create", 4, create(4, 3, 1))
	if !state.Same(g.Member(4), maker) || g.Left() != 0 {
		t.Errorf("the maker is %x, wanted %x; %d draws are left", state.Text(g.Member(4)), state.Text(maker), g.Left())
	}
	for name := range uint32(4) {
		checkBox(t, g, name, setup)
	}
	checkBox(t, g, 4)
	for name, code := range []api.Errno{api.ErrName, 0, api.ErrName, 0} {
		checkError(t, fmt.Sprint("Deliver ", name), g.Deliver(uint32(name), 0), code)
		checkBox(t, g, uint32(name))
	}
	if g.Member(1).Link() != maker.Link() || g.Member(3).Link() != maker.Link() || g.Member(3).Path().Leaf() != 1 {
		t.Errorf("the links are %x and %x, wanted %x", g.Member(1).Link(), g.Member(3).Link(), maker.Link())
	}
}

// P26.2: Create is of what was published last, whatever was used of it.
func TestCreateOfTheLast(t *testing.T) {
	g := grown(t, 3, 10)
	checkDone(t, g, "publish", 1, publish(1, 2))
	checkDone(t, g, "publish", 1, publish(1, 1))
	checkDone(t, g, "create", 0, create(0, 1))
	checkDone(t, g, "deliver", 1, deliver(1, 0))
	checkDone(t, g, "leave", 1, leave(1))
	checkDone(t, g, "create", 2, create(2, 1)) // again by the number 0, as nothing was published since
	checkError(t, "Deliver", g.Deliver(1, 0), api.ErrUsed)
	checkDone(t, g, "leave", 2, leave(2))
	checkDone(t, g, "publish", 1, publish(1, 0))
	checkDone(t, g, "create", 2, create(2, 1)) // by the number 1
	checkDone(t, g, "deliver", 1, deliver(1, 0))
	if m := g.Member(1); m.Link() != g.Member(2).Link() || !slices.Equal(m.Vault().Used(), []uint32{0, 1}) || !slices.Equal(m.Vault().IDs(), []uint32{2}) {
		t.Errorf("the member is %x", state.Text(m))
	}
}

// P26.2: of Create the first error; draws are gone as soon as both are drawn.
func TestCreateErrors(t *testing.T) {
	g := grown(t, 4, 5)
	checkDone(t, g, "publish", 1, publish(1, 3))
	checkDone(t, g, "publish", 3, publish(3, 0))
	for _, bad := range []uint32{4, 16, math.MaxUint32} {
		checkRefused(t, g, "create", bad, create(bad), api.ErrName, 0)
		checkRefused(t, g, "create", bad, create(bad, 1, 2), api.ErrName, 0)
		checkRefused(t, g, "create", 0, create(0, bad), api.ErrName, 0)
		checkRefused(t, g, "create", 0, create(0, 2, 1, bad), api.ErrName, 0)
	}
	checkRefused(t, g, "create", 0, create(0, 2), api.ErrNone, 0)
	checkRefused(t, g, "create", 0, create(0, 1, 1, 2), api.ErrNone, 0)
	checkRefused(t, g, "create", 0, create(0, 0), api.ErrNone, 0)
	checkDone(t, g, "publish", 1, publish(1, 1)) // one draw is left
	checkRefused(t, g, "create", 0, create(0), api.ErrDraw, 0)
	checkRefused(t, g, "create", 0, create(0, 1), api.ErrDraw, 0)
	checkRefused(t, g, "create", 0, create(0, 1, 2), api.ErrNone, 0)
	if !slices.Equal(left(t, g), keys(5, 1)) {
		t.Errorf("the draws are %x", left(t, g))
	}
	checkDone(t, g, "publish", 1, publish(1, 1))
	checkRefused(t, g, "create", 0, create(0, 1), api.ErrDraw, 0)
	g.Draw(keys(20, 20)...)
	checkRefused(t, g, "create", 0, create(0), api.ErrSize, 2)
	checkRefused(t, g, "create", 0, create(0, slices.Repeat([]uint32{1}, 1024)...), api.ErrSize, 2)
	checkRefused(t, g, "create", 0, create(0, 3), api.ErrNone, 2)
	checkRefused(t, g, "create", 0, create(0, 1, 3, 1), api.ErrNone, 2)
	checkRefused(t, g, "create", 0, create(0, 1, 1, 3), api.ErrName, 2)
	checkRefused(t, g, "create", 1, create(1, 1), api.ErrName, 2)
	checkDone(t, g, "create", 0, create(0, 1))
	checkRefused(t, g, "create", 0, create(0, 1), api.ErrState, 2)
	checkRefused(t, g, "create", 0, create(0), api.ErrState, 2)
	checkRefused(t, g, "create", 0, create(0, 2), api.ErrNone, 0)
	if !slices.Equal(left(t, g), keys(38, 2)) {
		t.Errorf("the draws are %x", left(t, g))
	}
}

// P26.2: Update renews a leaf by the next draw, and the update is sent to all others.
func TestUpdate(t *testing.T) {
	g := met(t, 3)
	m := g.Member(1)
	g.Draw(keys(50, 3)...)
	text, err := m.Update(keys(50, 1)[0])
	checkError(t, "Update", err, 0)
	checkDone(t, g, "update", 1, update(1))
	checkBox(t, g, 0, text)
	checkBox(t, g, 1)
	checkBox(t, g, 2, text)
	if !state.Same(g.Member(1), m) || !slices.Equal(left(t, g), keys(51, 2)) {
		t.Errorf("the member is %x, wanted %x; the draws are %x", state.Text(g.Member(1)), state.Text(m), left(t, g))
	}
	checkDone(t, g, "deliver", 0, deliver(0, 0))
	checkDone(t, g, "deliver", 2, deliver(2, 0))
	checkMet(t, g, 1)
}

// P26.2: of Update the first error.
func TestUpdateErrors(t *testing.T) {
	g := grown(t, 2, 1)
	checkRefused(t, g, "update", 2, update(2), api.ErrName, 0)
	checkRefused(t, g, "update", math.MaxUint32, update(math.MaxUint32), api.ErrName, 0)
	checkRefused(t, g, "update", 1, update(1), api.ErrState, 1)
	checkRefused(t, g, "update", 1, update(1), api.ErrDraw, 0)
	m := met(t, 2)
	checkRefused(t, m, "update", 1, update(1), api.ErrDraw, 0)
}

// P26.2: Deliver takes the text of any place, and the member receives it.
func TestDeliver(t *testing.T) {
	g := met(t, 3)
	g.Draw(keys(50, 2)...)
	checkDone(t, g, "update", 0, update(0))
	checkDone(t, g, "update", 0, update(0))
	box, _ := g.Office().Box(1)
	if len(box) != 2 {
		t.Fatalf("the inbox is %x", box)
	}
	before := members(g)
	checkError(t, "the second one first", g.Deliver(1, 1), api.ErrStage)
	if checkBox(t, g, 1, box[0]); members(g) != before {
		t.Errorf("the members were\n%s and are\n%s", before, members(g))
	}
	checkDone(t, g, "deliver", 1, deliver(1, 0))
	checkBox(t, g, 1)
	checkBox(t, g, 2, box...)
	if g.Member(1).Link().Stage != 1 || g.Member(2).Link().Stage != 0 {
		t.Errorf("the stages are %d and %d", g.Member(1).Link().Stage, g.Member(2).Link().Stage)
	}
}

// P26.2: of Deliver the first error; where there was a text it is gone, and nothing else.
func TestDeliverErrors(t *testing.T) {
	g := met(t, 2)
	for _, i := range []int{math.MinInt, -1, 0, 1, math.MaxInt} {
		checkRefused(t, g, "deliver", 2, deliver(2, i), api.ErrName, 0)
		checkRefused(t, g, "deliver", 1, deliver(1, i), api.ErrNone, 0)
	}
	published, err := member.New(9).Publish(api.Key{1})
	checkError(t, "Publish", err, 0)
	for text, code := range map[string]api.Errno{"": api.ErrKind, "x": api.ErrKind, published: api.ErrKind, "\x01\x03": api.ErrTruncated, "\x01\x02": api.ErrState} {
		checkDone(t, g, "tamper", 1, tamper(1, func(o *mail.Office) error {
			return fault.First(o.Put(1, "ahead"), o.Put(1, text), o.Put(1, "behind"))
		}))
		before, record := members(g), g.Record()
		checkError(t, fmt.Sprintf("Deliver of %x", text), g.Deliver(1, 1), code)
		checkRecorded(t, "Deliver", g, record, group.Entry{Call: "deliver", Name: 1, Code: code})
		if checkBox(t, g, 1, "ahead", "behind"); members(g) != before {
			t.Errorf("the members were\n%s and are\n%s", before, members(g))
		}
		checkError(t, "Deliver", g.Deliver(1, 0), api.ErrKind)
		checkError(t, "Deliver", g.Deliver(1, 0), api.ErrKind)
		checkRefused(t, g, "deliver", 1, deliver(1, 0), api.ErrNone, 0)
	}
}

// P26.2: one's own message isn't taken, a turned one neither.
func TestDeliverIllHands(t *testing.T) {
	g := met(t, 2)
	g.Draw(keys(50, 1)...)
	checkDone(t, g, "update", 0, update(0))
	box, _ := g.Office().Box(1)
	checkDone(t, g, "tamper", 0, tamper(0, func(o *mail.Office) error {
		return fault.First(o.Put(0, box[0]), o.Double(1, 0), o.Turn(1, 0, len(box[0])-1, 4))
	}))
	checkError(t, "its own, of the stage ahead", g.Deliver(0, 0), api.ErrStage)
	checkError(t, "turned", g.Deliver(1, 0), api.ErrMAC)
	checkDone(t, g, "deliver", 1, deliver(1, 0))
	checkMet(t, g, 1)
}

// P26.2: Leave is layer 22's.
func TestLeave(t *testing.T) {
	g := met(t, 3)
	m := g.Member(2)
	checkError(t, "Leave", m.Leave(), 0)
	others := state.Text(g.Member(0)) + state.Text(g.Member(1))
	checkDone(t, g, "leave", 2, leave(2))
	if !state.Same(g.Member(2), m) || state.Text(g.Member(0))+state.Text(g.Member(1)) != others {
		t.Errorf("behind Leave the members are\n%s", members(g))
	}
	checkRefused(t, g, "leave", 2, leave(2), api.ErrState, 0)
	checkRefused(t, g, "leave", 3, leave(3), api.ErrName, 0)
	checkRefused(t, grown(t, 2, 0), "leave", 1, leave(1), api.ErrState, 0)
}

// P26.2: where Send has an error, the member has made a group, or renewed its leaf, all the same.
func TestNoRoom(t *testing.T) {
	g := grown(t, 3, 8)
	checkDone(t, g, "publish", 1, publish(1, 2))
	checkDone(t, g, "tamper", 2, tamper(2, filled(0, 1)))
	maker := g.Member(0)
	mine, err := g.Member(1).Publish()
	checkError(t, "Publish", err, 0)
	_, err = maker.Create(keys(3, 1)[0], keys(4, 1)[0], mine)
	checkError(t, "Create", err, 0)
	before, record := boxes(g.Office()), g.Record()
	checkError(t, "Create", g.Create(0, 1), api.ErrMany)
	checkRecorded(t, "Create", g, record, group.Entry{Call: "create", Name: 0, Code: api.ErrMany})
	if boxes(g.Office()) != before || !state.Same(g.Member(0), maker) || g.Left() != 4 {
		t.Errorf("behind Create the member is %x, wanted %x; %d draws are left", state.Text(g.Member(0)), state.Text(maker), g.Left())
	}
	_, err = maker.Update(keys(5, 1)[0])
	checkError(t, "Update", err, 0)
	record = g.Record()
	checkError(t, "Update", g.Update(0), api.ErrMany)
	checkRecorded(t, "Update", g, record, group.Entry{Call: "update", Name: 0, Code: api.ErrMany})
	if boxes(g.Office()) != before || !state.Same(g.Member(0), maker) || g.Left() != 3 {
		t.Errorf("behind Update the member is %x, wanted %x; %d draws are left", state.Text(g.Member(0)), state.Text(maker), g.Left())
	}
	checkRefused(t, g, "create", 0, create(0, 1), api.ErrState, 2)
	checkError(t, "Deliver", g.Deliver(0, 0), api.ErrKind)
	checkDone(t, g, "update", 0, update(0)) // there is room for two now
}

// P26.2: Tamper does something with a clone; where it tells nil that is the office.
func TestTamper(t *testing.T) {
	g := grown(t, 3, 0)
	checkDone(t, g, "tamper", 2, tamper(2, func(o *mail.Office) error { return o.Send(1, "a") }))
	checkDone(t, g, "tamper", 0, tamper(0, func(o *mail.Office) error { return o.Put(2, "b") }))
	checkDone(t, g, "tamper", 1, tamper(1, func(o *mail.Office) error { return nil }))
	checkBox(t, g, 0, "a")
	checkBox(t, g, 1)
	checkBox(t, g, 2, "a", "b")
	checkDone(t, g, "tamper", 1, tamper(1, func(o *mail.Office) error {
		if text, err := o.Take(2, 0); text != "a" || err != nil || o.Swap(0, 1, 1) == nil {
			t.Errorf("of the clone: %q, %v", text, err)
		}
		return nil // a call that was refused plays no part, if it isn't told
	}))
	checkBox(t, g, 2, "b")
}

// P26.2: where what is done tells an error the office is as it was, whatever was done.
func TestTamperErrors(t *testing.T) {
	g := met(t, 2)
	checkDone(t, g, "tamper", 0, tamper(0, func(o *mail.Office) error { return fault.First(o.Put(0, "a"), o.Put(1, "b")) }))
	for e := api.ErrTruncated; e <= api.ErrLong; e++ {
		for _, err := range []error{e, fault.Wrap("a", fault.Wrap("b", e))} {
			do := func(o *mail.Office) error {
				checkError(t, "Put", fault.First(o.Put(1, "x"), o.Turn(0, 0, 0, 1), o.Swap(1, 0, 1)), 0)
				return err
			}
			checkRefused(t, g, "tamper", 1, tamper(1, do), e, 0)
		}
	}
	never := func(*mail.Office) error {
		t.Error("something is done, though there is no such name")
		return nil
	}
	checkRefused(t, g, "tamper", 2, tamper(2, never), api.ErrName, 0)
	checkRefused(t, g, "tamper", math.MaxUint32, tamper(math.MaxUint32, never), api.ErrName, 0)
	checkRefused(t, g, "tamper", 2, tamper(2, nil), api.ErrName, 0)
	checkRefused(t, g, "tamper", 0, tamper(0, nil), api.ErrNil, 0)
	checkRefused(t, g, "tamper", 0, tamper(0, func(o *mail.Office) error { _, err := o.Take(0, 1); return err }), api.ErrNone, 0)
	checkRefused(t, g, "tamper", 0, tamper(0, filled(1, -1)), api.ErrMany, 0)
	checkRefused(t, g, "tamper", 0, tamper(0, func(o *mail.Office) error {
		_ = o.Put(0, "x")
		panic("what is done")
	}), api.ErrForm, 0)
}

// P26.2: what is done later with what was handed plays no part; nor is another office, which was put in its place, changed by it.
func TestTamperLater(t *testing.T) {
	g := grown(t, 2, 0)
	var kept *mail.Office
	checkDone(t, g, "tamper", 0, tamper(0, func(o *mail.Office) error {
		kept = o
		return o.Put(1, "a")
	}))
	checkError(t, "Put", fault.First(kept.Put(1, "b"), kept.Put(0, "c"), kept.Turn(1, 0, 0, 1), kept.Send(0, "d")), 0)
	checkBox(t, g, 0)
	checkBox(t, g, 1, "a")
	checkDone(t, g, "tamper", 0, tamper(0, func(o *mail.Office) error { return o.Turn(1, 0, 0, 3) }))
	if box, _ := kept.Box(1); box[0] != "`" {
		t.Errorf("what was kept has %q", box)
	}
	other := mail.New(0, 1)
	checkDone(t, g, "tamper", 0, tamper(0, func(o *mail.Office) error {
		*o = *other
		return nil
	}))
	checkError(t, "Put", other.Put(0, "x"), 0)
	checkBox(t, g, 0)
	checkError(t, "Deliver", g.Deliver(1, 0), api.ErrNone)
}

// P26.2: what is done may ask the group for something, which is recorded ahead; the office is the clone's all the same.
func TestTamperWithin(t *testing.T) {
	g := met(t, 2)
	g.Draw(keys(50, 1)...)
	before := g.Record()
	checkError(t, "Tamper", g.Tamper(1, func(o *mail.Office) error { return fault.First(g.Update(0), o.Put(1, "a")) }), 0)
	if got := g.Record(); !slices.Equal(got, append(before, group.Entry{Call: "update"}, group.Entry{Call: "tamper", Name: 1})) {
		t.Errorf("the record is %v", got)
	}
	checkBox(t, g, 1, "a")
}

// P26.1: what is done with a clone plays no part for the other one, and the other way round.
func TestClone(t *testing.T) {
	g := met(t, 3)
	checkDone(t, g, "publish", 0, publish(0, 0))
	g.Draw(keys(50, 9)...)
	checkDone(t, g, "update", 1, update(1))
	all := func(g *group.Group) string {
		return fmt.Sprint(members(g), boxes(g.Office()), published(g), g.Record(), left(t, g))
	}
	before := all(g)
	if got := all(g.Clone()); got != before {
		t.Errorf("a clone has\n%s, wanted\n%s", got, before)
	}
	for i, call := range []func(*group.Group) error{
		publish(2, 1), publish(1, -1), create(0, 1), update(1), deliver(0, 0), leave(2),
		tamper(0, func(o *mail.Office) error { return o.Put(0, "x") }),
		func(g *group.Group) error { g.Draw(api.Key{9}); return nil },
	} {
		c, d := g.Clone(), g.Clone()
		_ = call(c)
		if got := all(g); got != before {
			t.Errorf("behind the call %d of a clone there is\n%s, wanted\n%s", i, got, before)
		}
		if all(c) == before || all(d) != before {
			t.Errorf("behind the call %d of it a clone has\n%s, another one\n%s", i, all(c), all(d))
		}
		_ = call(d)
		if all(c) != all(d) {
			t.Errorf("behind the same call %d there is\n%s and\n%s", i, all(c), all(d))
		}
	}
}

// P26.1: a clone's record is its own, however long it is.
func TestCloneRecord(t *testing.T) {
	g := grown(t, 2, 0)
	var wanted []group.Entry
	for i := range 40 {
		c := g.Clone()
		mine, other := group.Entry{Call: "leave", Name: 0, Code: api.ErrState}, group.Entry{Call: "update", Name: uint32(i), Code: api.ErrName}
		if i < 2 {
			other.Code = api.ErrDraw
		}
		checkError(t, "Leave", g.Leave(0), api.ErrState)
		checkError(t, "Update", c.Update(uint32(i)), other.Code)
		checkRecorded(t, "the first one", g, wanted, mine)
		checkRecorded(t, "the clone", c, wanted, other)
		wanted = append(wanted, mine)
	}
}

// P26.1, P26.2: of nil.
func TestNil(t *testing.T) {
	var g *group.Group
	g.Draw()
	g.Draw(api.Key{1})
	if g.Clone() != nil || g.N() != 0 || g.Member(0) != nil || g.Member(5) != nil || g.Office() != nil || g.Left() != 0 || len(g.Record()) != 0 {
		t.Errorf("of nil there is %v %d %v %v %d %v", g.Clone(), g.N(), g.Member(0), g.Office(), g.Left(), g.Record())
	}
	do := func(*mail.Office) error {
		t.Error("something is done, though there is no group")
		return nil
	}
	for _, name := range []uint32{0, 1, 99} {
		for i, call := range []func(*group.Group) error{
			publish(name, 1), publish(name, -1), create(name), create(name, 1), update(name), deliver(name, 0), leave(name), tamper(name, nil), tamper(name, do),
		} {
			checkError(t, fmt.Sprint("the call ", i, " of nil"), call(g), api.ErrNil)
		}
	}
}

// What is handed in is neither changed nor kept, and answers are new memory.
func TestMemory(t *testing.T) {
	draws := keys(1, 9)
	g, err := group.New(3, draws[:4]...)
	checkError(t, "New", err, 0)
	more := keys(5, 5)
	g.Draw(more[:3]...)
	others := []uint32{2, 1, 7}
	checkDone(t, g, "publish", 1, publish(1, 1))
	checkDone(t, g, "publish", 2, publish(2, 1))
	checkDone(t, g, "create", 0, create(0, others[:2]...))
	if !slices.Equal(draws, keys(1, 9)) || !slices.Equal(more, keys(5, 5)) || !slices.Equal(others, []uint32{2, 1, 7}) {
		t.Errorf("what was handed in is %x, %x, %v", draws, more, others)
	}
	clear(draws)
	clear(more)
	clear(others)
	if got := left(t, g); !slices.Equal(got, keys(5, 3)) {
		t.Errorf("behind a change of what was handed in the draws are %x", got)
	}
	has, waits, wanted := members(g), boxes(g.Office()), slices.Clone(g.Record())
	told := g.Record()
	_ = append(told, group.Entry{Call: "room"})
	clear(told)
	checkError(t, "of an answer", fault.First(g.Office().Put(0, "x"), g.Member(0).Leave()), 0)
	if _, err := g.Member(0).Publish(api.Key{1}); err != nil || members(g) != has || boxes(g.Office()) != waits || !slices.Equal(g.Record(), wanted) {
		t.Errorf("behind a change of answers there is\n%s\n%s\n%v", members(g), boxes(g.Office()), g.Record())
	}
	told = g.Record()
	checkDone(t, g, "leave", 0, leave(0))
	if !slices.Equal(told, wanted) {
		t.Errorf("behind another call an answer is %v", told)
	}
}

// An error may be changed, and others, and the record, stay as they are.
func TestErrorsAreNew(t *testing.T) {
	var none *group.Group
	g := grown(t, 2, 0)
	for _, call := range []func() error{
		func() error { _, err := group.New(1); return err },
		func() error { return none.Leave(0) },
		func() error { return g.Leave(2) },
		func() error { return g.Leave(1) },
		func() error { return g.Update(1) },
		func() error { return g.Publish(1, -1) },
		func() error { return g.Create(1, 0) },
		func() error { return g.Deliver(1, 0) },
		func() error { return g.Tamper(1, nil) },
	} {
		code := fault.Code(call())
		err := call()
		for f := (*fault.Fault)(nil); errors.As(err, &f); {
			err, f.Err = f.Err, nil
		}
		if got := fault.Code(call()); got != code || code == 0 {
			t.Errorf("behind another error was changed: Code is %v, wanted %v", got, code)
		}
	}
	for _, e := range g.Record() {
		if e.Code == 0 {
			t.Errorf("the record has %v", e)
		}
	}
}

// A bundle is what its member told, also behind calls that were refused: the setup tells its seats by it.
func TestBundleStays(t *testing.T) {
	g := grown(t, 2, 70)
	checkDone(t, g, "publish", 1, publish(1, 60))
	checkRefused(t, g, "publish", 1, publish(1, 6), api.ErrMany, 6)
	checkDone(t, g, "create", 0, create(0, 1))
	box, _ := g.Office().Box(1)
	if len(box) != 1 || bundle.KindOf(box[0]) != bundle.Setup {
		t.Fatalf("the inbox is %x", box)
	}
	checkDone(t, g, "deliver", 1, deliver(1, 0))
	checkMet(t, g, 0)
}
