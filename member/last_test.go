package member

import (
	"math"
	"testing"

	"sapwood/api"
	"sapwood/chain"
	"sapwood/fault"
	"sapwood/update"
)

// atStage: two members in one group, as if it had come to that stage. (No test lives to see so many updates; the keys play no part here.)
func atStage(t *testing.T, stage uint32) (*Member, *Member) {
	t.Helper()
	a, b := New(1), New(2)
	text, err := b.Publish(api.Key{1})
	checkCode(t, "Publish", err, 0)
	text, err = a.Create(api.Key{2}, api.Key{3}, text)
	checkCode(t, "Create", err, 0)
	checkCode(t, "Accept", b.Accept(text), 0)
	a.link.Stage, b.link.Stage = stage, stage
	return a, b
}

// signed: an update of the first leaf with that key, at the link's stage, signed by that link.
func signed(t *testing.T, l chain.Link, public api.Key) string {
	t.Helper()
	u := update.Update{Stage: l.Stage, Publics: []api.Key{public}}
	body, err := u.Body()
	checkCode(t, "Body", err, 0)
	u.Tag = l.Sign(body)
	text, err := u.Write()
	checkCode(t, "Write", err, 0)
	return text
}

// checkCode: a call's error is of that number (0: it has none).
func checkCode(t *testing.T, what string, err error, code api.Errno) {
	t.Helper()
	if fault.Code(err) != code || (err == nil) != (code == 0) {
		t.Errorf("%s: the error is %v, wanted %v", what, err, code)
	}
}

// P22.4: the last update is that of the stage 2^32 - 2; at the stage 2^32 - 1 there is none.
func TestUpdateAtTheLastStage(t *testing.T) {
	a, b := atStage(t, math.MaxUint32-1)
	text, err := a.Update(api.Key{4})
	checkCode(t, "Update", err, 0)
	checkCode(t, "Process", b.Process(text), 0)
	if a.Link() != b.Link() || a.Link().Stage != math.MaxUint32 {
		t.Errorf("the links are %x and %x", a.Link(), b.Link())
	}
	link, root := a.Link(), a.Path().Root()
	text, err = a.Update(api.Key{5})
	checkCode(t, "Update at the last stage", err, api.ErrRange)
	if text != "" || a.Link() != link || a.Path().Root() != root {
		t.Errorf("beside an error there is %x, the link %x and the root %x", text, a.Link(), a.Path().Root())
	}
	checkCode(t, "Leave", a.Leave(), 0)
	_, err = a.Update(api.Key{5})
	checkCode(t, "Update in no group", err, api.ErrState)
}

// P22.5: the same of another one's: behind the tag, and ahead of keys that share nothing.
func TestProcessAtTheLastStage(t *testing.T) {
	a, b := atStage(t, math.MaxUint32)
	link, root := b.Link(), b.Path().Root()
	other := link
	other.TagKey = api.Key{9}
	checkCode(t, "at the last stage", b.Process(signed(t, link, api.Key{9})), api.ErrRange)
	checkCode(t, "sharing nothing", b.Process(signed(t, link, api.Key{})), api.ErrRange)
	checkCode(t, "under another tag", b.Process(signed(t, other, api.Key{9})), api.ErrMAC)
	checkCode(t, "its own", a.Process(signed(t, link, api.Key{9})), api.ErrEcho)
	if b.Link() != link || b.Path().Root() != root {
		t.Errorf("behind errors there is the link %x, and the root %x", b.Link(), b.Path().Root())
	}
	b.link.Stage = math.MaxUint32 - 1
	checkCode(t, "one ahead, sharing nothing", b.Process(signed(t, b.link, api.Key{})), api.ErrZero)
	checkCode(t, "one ahead", b.Process(signed(t, b.link, api.Key{9})), 0)
}
