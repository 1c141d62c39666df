package group_test

import (
	"fmt"
	"math/rand"
	"slices"
	"testing"

	"sapwood/api"
	"sapwood/fault"
	"sapwood/group"
	"sapwood/mail"
	"sapwood/member"
	"sapwood/state"
)

// P26.3: where each message is delivered once, in the order in which they were sent, and each update is made when all have the same stage, all have one link at the end.
func TestAllMeet(t *testing.T) {
	random := rand.New(rand.NewSource(26))
	for _, n := range []int{2, 3, 4, 5, 7, 8, 11, 16} {
		g := grown(t, n, n+2)
		maker := uint32(random.Intn(n))
		var others []uint32
		for _, name := range random.Perm(n) {
			if uint32(name) != maker {
				checkDone(t, g, "publish", uint32(name), publish(uint32(name), 1))
				others = append(others, uint32(name))
			}
		}
		checkDone(t, g, "create", maker, create(maker, others...))
		deliverAll(t, random, g)
		checkMet(t, g, 0)
		for stage := range uint32(6) {
			g.Draw(api.Key{byte(random.Intn(256)), byte(stage)})
			name := uint32(random.Intn(n))
			checkDone(t, g, "update", name, update(name))
			deliverAll(t, random, g)
			checkMet(t, g, stage+1)
		}
		for _, e := range g.Record() {
			if e.Code != 0 {
				t.Errorf("the record has %v", e)
			}
		}
	}
}

// P26.3: messages may wait, as long as each one's come in the order in which they were sent.
func TestAllMeetLate(t *testing.T) {
	g := met(t, 4)
	for i := range 5 {
		g.Draw(api.Key{byte(i), 3})
		checkDone(t, g, "update", 2, update(2))
	}
	for _, name := range []uint32{3, 0, 1} {
		for range 5 {
			checkDone(t, g, "deliver", name, deliver(name, 0))
		}
	}
	checkMet(t, g, 5)
}

// deliverAll: all that waits, each inbox from its first text on, the inboxes in any order.
func deliverAll(t *testing.T, random *rand.Rand, g *group.Group) {
	t.Helper()
	for _, i := range random.Perm(g.N()) {
		name := uint32(i)
		box, _ := g.Office().Box(name)
		for range box {
			checkDone(t, g, "deliver", name, deliver(name, 0))
		}
	}
}

// model: a group, by the document's words, of layer 22's members alone.
type model struct {
	members []*member.Member
	boxes   map[uint32][]string
	draws   []api.Key
	bundles map[uint32]string
	record  []group.Entry
}

// modelOf: a new one.
func modelOf(n int, draws []api.Key) *model {
	m := &model{boxes: map[uint32][]string{}, bundles: map[uint32]string{}, draws: draws}
	for name := range uint32(n) {
		m.members = append(m.members, member.New(name))
		m.boxes[name] = nil
	}
	return m
}

// note: a call is recorded.
func (m *model) note(call string, name uint32, code api.Errno) {
	m.record = append(m.record, group.Entry{Call: call, Name: name, Code: code})
}

// some: the next draws, if there are so many.
func (m *model) some(n int) ([]api.Key, api.Errno) {
	if n < 0 {
		return nil, api.ErrRange
	}
	if n > len(m.draws) {
		return nil, api.ErrDraw
	}
	l := m.draws[:n:n]
	m.draws = m.draws[n:]
	return l, 0
}

// send: to all others.
func (m *model) send(from uint32, text string) api.Errno {
	n := len(m.boxes) - 1
	for _, box := range m.boxes {
		n += len(box)
	}
	if n > full {
		return api.ErrMany
	}
	for name := range m.boxes {
		if name != from {
			m.boxes[name] = append(m.boxes[name], text)
		}
	}
	return 0
}

// there: are there all these names?
func (m *model) there(names ...uint32) bool {
	for _, name := range names {
		if int(name) >= len(m.members) {
			return false
		}
	}
	return true
}

func (m *model) publish(name uint32, n int) api.Errno {
	if !m.there(name) {
		return api.ErrName
	}
	l, code := m.some(n)
	if code != 0 {
		return code
	}
	text, err := m.members[name].Publish(l...)
	if err == nil {
		m.bundles[name] = text
	}
	return fault.Code(err)
}

func (m *model) create(name uint32, others ...uint32) api.Errno {
	if !m.there(append([]uint32{name}, others...)...) {
		return api.ErrName
	}
	var bundles []string
	for _, other := range others {
		text, ok := m.bundles[other]
		if !ok {
			return api.ErrNone
		}
		bundles = append(bundles, text)
	}
	l, code := m.some(2)
	if code != 0 {
		return code
	}
	text, err := m.members[name].Create(l[0], l[1], bundles...)
	if err != nil {
		return fault.Code(err)
	}
	return m.send(name, text)
}

func (m *model) update(name uint32) api.Errno {
	if !m.there(name) {
		return api.ErrName
	}
	l, code := m.some(1)
	if code != 0 {
		return code
	}
	text, err := m.members[name].Update(l[0])
	if err != nil {
		return fault.Code(err)
	}
	return m.send(name, text)
}

func (m *model) deliver(name uint32, i int) api.Errno {
	if !m.there(name) {
		return api.ErrName
	}
	box := m.boxes[name]
	if i < 0 || i >= len(box) {
		return api.ErrNone
	}
	text := box[i]
	m.boxes[name] = append(slices.Clone(box[:i]), box[i+1:]...)
	return fault.Code(m.members[name].Receive(text))
}

func (m *model) leave(name uint32) api.Errno {
	if !m.there(name) {
		return api.ErrName
	}
	return fault.Code(m.members[name].Leave())
}

// turn: a byte of a text is turned.
func (m *model) turn(name uint32, i, at int, by byte) api.Errno {
	switch box := m.boxes[name]; {
	case !m.there(name):
		return api.ErrName
	case i < 0 || i >= len(box):
		return api.ErrNone
	case at < 0 || at >= len(box[i]):
		return api.ErrRange
	default:
		m.boxes[name] = slices.Clone(box)
		m.boxes[name][i] = box[i][:at] + string([]byte{box[i][at] ^ by}) + box[i][at+1:]
	}
	return 0
}

// double: a text stands there again.
func (m *model) double(name uint32, i int) api.Errno {
	switch box := m.boxes[name]; {
	case !m.there(name):
		return api.ErrName
	case i < 0 || i >= len(box):
		return api.ErrNone
	default:
		m.boxes[name] = append(slices.Clone(box), box[i])
	}
	return 0
}

// checkModel: a group has what its model has.
func checkModel(t *testing.T, what string, g *group.Group, m *model) {
	t.Helper()
	if g.N() != len(m.members) || g.Left() != len(m.draws) || !slices.Equal(g.Record(), m.record) {
		t.Fatalf("%s: N %d, Left %d, wanted %d, %d; the record is\n%v, wanted\n%v", what, g.N(), g.Left(), len(m.members), len(m.draws), g.Record(), m.record)
	}
	for name, wanted := range m.members {
		if got := g.Member(uint32(name)); !state.Same(got, wanted) {
			t.Fatalf("%s: the member %d is %x, wanted %x", what, name, state.Text(got), state.Text(wanted))
		}
		if box, ok := g.Office().Box(uint32(name)); !ok || !slices.Equal(box, m.boxes[uint32(name)]) {
			t.Fatalf("%s: the inbox of %d is %x, wanted %x", what, name, box, m.boxes[uint32(name)])
		}
	}
}

// step: any call of both; its error's number here, and there.
func step(random *rand.Rand, g *group.Group, m *model) (string, error, api.Errno) {
	name, i := uint32(random.Intn(len(m.members)+1)), random.Intn(5)-1
	if random.Intn(4) > 0 { // what is likely to go well
		name, i = uint32(random.Intn(len(m.members))), 0
	}
	switch random.Intn(12) {
	case 0, 1:
		return "publish", g.Publish(name, i), m.publish(name, i)
	case 2:
		var others []uint32
		for _, k := range random.Perm(len(m.members) + 1)[:random.Intn(len(m.members))] {
			others = append(others, uint32(k))
		}
		return "create", g.Create(name, others...), m.create(name, others...)
	case 3, 4:
		return "update", g.Update(name), m.update(name)
	case 5, 6, 7, 8:
		return "deliver", g.Deliver(name, i), m.deliver(name, i)
	case 9:
		return "leave", g.Leave(name), m.leave(name)
	case 10:
		at, by := random.Intn(400)-1, byte(random.Intn(256))
		return "tamper", g.Tamper(name, func(o *mail.Office) error { return o.Turn(name, i, at, by) }), m.turn(name, i, at, by)
	}
	return "tamper", g.Tamper(name, func(o *mail.Office) error { return o.Double(name, i) }), m.double(name, i)
}

// P26.2: whatever is called, in some order, comes out as the words say.
func TestAny(t *testing.T) {
	random := rand.New(rand.NewSource(2626))
	well := map[string]int{}
	for range 25 {
		n := 2 + random.Intn(3)
		g, m := grown(t, n, 20), modelOf(n, keys(1, 20))
		for name := range uint32(n) {
			checkError(t, "Publish", g.Publish(name, 3), m.publish(name, 3))
			m.note("publish", name, 0)
		}
		for k := range 60 {
			before := len(m.record)
			word, err, code := step(random, g, m)
			record := g.Record()
			name := record[before].Name
			m.note(word, name, code)
			what := fmt.Sprint(k, " ", word, " ", name)
			checkError(t, what, err, code)
			checkModel(t, what, g, m)
			if code == 0 {
				well[word]++
			}
			if random.Intn(6) == 0 {
				g.Draw(keys(100+k, 2)...)
				m.draws = append(slices.Clone(m.draws), keys(100+k, 2)...)
			}
			if random.Intn(10) == 0 {
				g = g.Clone()
			}
		}
	}
	for _, word := range []string{"publish", "create", "update", "deliver", "leave", "tamper"} {
		if well[word] < 10 {
			t.Errorf("%s went well %d times only: the test says too little", word, well[word])
		}
	}
}
