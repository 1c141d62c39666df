package machine_test

import (
	"fmt"
	"math/rand"
	"slices"
	"strings"
	"testing"

	"sapwood/api"
	"sapwood/ct"
	"sapwood/derive"
	"sapwood/fault"
	"sapwood/group"
	"sapwood/machine"
	"sapwood/mail"
	"sapwood/script"
)

// checkRun: a script tells these lines.
func checkRun(t *testing.T, text string, wanted ...string) {
	t.Helper()
	got, line, err := machine.Run(text)
	checkError(t, "Run", err, 0)
	if line != 0 || !slices.Equal(got, wanted) {
		t.Errorf("Run of %.200q tells\n%q, line %d, wanted\n%q", text, got, line, wanted)
	}
}

// checkNoRun: a text isn't played, for that error of that line.
func checkNoRun(t *testing.T, text string, line int, code api.Errno) {
	t.Helper()
	lines, got, err := machine.Run(text)
	what := fmt.Sprintf("Run of %.100q", text)
	checkError(t, what, err, code)
	if len(lines) != 0 || got != line || code == 0 {
		t.Errorf("%s: the line is %d, wanted %d; there is %q", what, got, line, lines)
	}
}

// P28.3: Run tells the lines of all commands, one behind the other.
func TestRun(t *testing.T) {
	m := met(t, 2)
	key := func(name uint32) string { return ct.Hex(m.Group().Member(name).Link().Key) }
	text := "# two\ngroup 2\n\nseed 8 met\npublish 1 1\ncreate 0 1\ndeliver 1 0\nall\n"
	begun := []string{"ok", "ok", "ok", "ok", "0 in 0 0 2 " + key(0), "1 in 0 1 2 " + key(1)}
	checkRun(t, text, begun...)
	checkAll(t, m, op(update, 1))
	begun = append(begun, "ok", "1 in 1 1 2 "+key(1), "error echo", "ok", "error none")
	text += "update 1\nshow 1\n" + "put 1 " + hexOf(m, 0) + "\n"
	checkAll(t, m, op(deliver, 0, 0))
	text = strings.Replace(text, "put 1", "deliver 0 0\nput 1", 1) + "deliver 1 0\nall"
	checkRun(t, text, append(begun[:8:8], "ok", "ok", "error stage", "0 in 1 0 2 "+key(0), "1 in 1 1 2 "+key(1))...)
	checkRun(t, "group 16")
	checkRun(t, "group 2\n# all\n")
	checkRun(t, "group 3\nall\nshow 9\nall", "0 out", "1 out", "2 out", "9 none", "0 out", "1 out", "2 out")
	checkRun(t, "group 2\n"+strings.Repeat("show 2147483647\n", 1000), slices.Repeat([]string{"2147483647 none"}, 1000)...)
}

// hexOf: the first text of an inbox, to the base 16.
func hexOf(m *machine.Machine, name uint32) string {
	box, _ := m.Group().Office().Box(name)
	return fmt.Sprintf("%X", box[0])
}

// P28.3: what is no script is told by layer 27's line and error; a group that can't be by New's, and the line 0.
func TestNoRun(t *testing.T) {
	checkNoRun(t, "", 0, api.ErrNone)
	checkNoRun(t, "#\n\n", 0, api.ErrNone)
	checkNoRun(t, strings.Repeat(" ", 65537), 0, api.ErrLong)
	checkNoRun(t, "all", 1, api.ErrForm)
	checkNoRun(t, "group 2\nall\n\nshow x", 4, api.ErrForm)
	checkNoRun(t, "group 2\nall\nshow 2147483648\n", 3, api.ErrRange)
	checkNoRun(t, "group 2\n"+strings.Repeat("all\n", 1001), 1002, api.ErrMany)
	for _, n := range []string{"0", "1", "17", "2147483647"} {
		checkNoRun(t, "\n\ngroup "+n, 0, api.ErrSize)
		checkNoRun(t, "group "+n+"\nall\nshow 0", 0, api.ErrSize)
		checkNoRun(t, "group "+n+"\nall\nnonsense", 3, api.ErrForm)
	}
}

// The document's fifth to tenth examples, as one script.
func TestWhole(t *testing.T) {
	lines, _, err := machine.Run("group 3\nseed 20 abc\npublish 1 1\npublish 2 1\ncreate 0 1 2\ndouble 1 0\n" +
		"deliver 1 0\ndeliver 2 0\nleave 1\ndeliver 1 0\n" + // a prekey is gone when it is used
		"update 0\ndouble 2 0\ndouble 2 0\nturn 2 0 104 4\ndeliver 2 0\ndeliver 2 0\ndeliver 2 0\n" + // the tag is turned; it is well; it is of an elder stage
		"all")
	checkError(t, "Run", err, 0)
	wanted := slices.Repeat([]string{"ok"}, 8)
	wanted = append(wanted, "error used", "ok", "ok", "ok", "ok", "error mac", "ok", "error stage")
	if len(lines) != 19 || !slices.Equal(lines[:16], wanted) || lines[17] != "1 out" {
		t.Fatalf("the lines are %q, wanted %q", lines, wanted)
	}
	_, first, here := strings.Cut(lines[16], "0 in 1 0 3 ")
	_, third, there := strings.Cut(lines[18], "2 in 1 2 3 ")
	if !here || !there || first != third {
		t.Errorf("the lines are %q and %q", lines[16], lines[18])
	}
}

// words: the commands' words, by their numbers.
var words = []string{"draw", "seed", "publish", "create", "update", "deliver", "leave", "drop", "double", "turn", "swap", "put", "show", "all"}

// anyCommand: one that is likely to go well.
func anyCommand(random *rand.Rand, n int) script.Command {
	name, i, k := random.Intn(n), random.Intn(4)/2, random.Intn(4)/2
	if random.Intn(12) == 0 {
		name, i = n+random.Intn(2), random.Intn(6)
	}
	likely := []uint8{update, update, update, deliver, deliver, deliver, deliver, double, put, turn, swap}
	switch o := append(likely, 0, 1, 2, 3, 4, 5, 6, 7, 8, 9, 10, 11, 12, 13)[random.Intn(len(likely)+len(words))]; o {
	case draw:
		return script.Command{Op: o, Key: api.Key{byte(random.Intn(256)), byte(random.Intn(256))}}
	case seed:
		return word(o, fmt.Sprint(random.Intn(99)), random.Intn(3))
	case create:
		l := []int{name}
		for _, other := range random.Perm(n) {
			if other != name {
				l = append(l, other)
			}
		}
		return op(o, l...)
	case turn:
		return op(o, name, i, random.Intn(200), random.Intn(600))
	case swap:
		return op(o, name, i, k)
	case put:
		return word(o, []string{"a", "ab", "0103", "0102ff"}[random.Intn(4)], name)
	case update, leave, show:
		return op(o, name)
	case publish, drop, double:
		return op(o, name, i)
	case deliver:
		return op(o, name, i/2)
	}
	return op(all)
}

// reckoned: what a command says of a group, by the document's words, and layer 26's calls.
func reckoned(g *group.Group, c script.Command) []string {
	var name uint32
	if len(c.N) > 0 {
		name = uint32(c.N[0])
	}
	tamper := func(do func(o *mail.Office) error) error { return g.Tamper(name, do) }
	var err error
	switch c.Op {
	case draw:
		g.Draw(c.Key)
	case seed:
		for i := range c.N[0] {
			g.Draw(derive.Label("sapwood draw", c.Word, string([]byte{byte(i)})))
		}
	case publish:
		err = g.Publish(name, c.N[1])
	case create:
		var others []uint32
		for _, n := range c.N[1:] {
			others = append(others, uint32(n))
		}
		err = g.Create(name, others...)
	case update:
		err = g.Update(name)
	case deliver:
		err = g.Deliver(name, c.N[1])
	case leave:
		err = g.Leave(name)
	case drop:
		err = tamper(func(o *mail.Office) error { _, err := o.Take(name, c.N[1]); return err })
	case double:
		err = tamper(func(o *mail.Office) error { return o.Double(name, c.N[1]) })
	case turn:
		err = tamper(func(o *mail.Office) error { return o.Turn(name, c.N[1], c.N[2], byte(c.N[3]%256)) })
	case swap:
		err = tamper(func(o *mail.Office) error { return o.Swap(name, c.N[1], c.N[2]) })
	case put:
		text := map[string]string{"ab": "\xab", "0103": "\x01\x03", "0102ff": "\x01\x02\xff"}[c.Word]
		if text == "" {
			text = c.Word
		}
		err = tamper(func(o *mail.Office) error { return o.Put(name, text) })
	case show:
		return []string{shown(g, name)}
	case all:
		var l []string
		for name := range uint32(g.N()) {
			l = append(l, shown(g, name))
		}
		return l
	}
	if err != nil {
		return []string{"error " + fault.Code(err).Error()}
	}
	return []string{"ok"}
}

// shown: a member, as a line.
func shown(g *group.Group, name uint32) string {
	m := g.Member(name)
	if m == nil {
		return fmt.Sprint(name, " none")
	}
	if !m.In() {
		return fmt.Sprint(name, " out")
	}
	return fmt.Sprintf("%d in %d %d %d %x", name, m.Link().Stage, m.Path().Leaf(), m.Path().N(), m.Link().Key)
}

// P28.2, P28.3, P28.4: whatever is played, it comes out as the words say, command by command, as one script, and again.
func TestAny(t *testing.T) {
	random := rand.New(rand.NewSource(28))
	well := map[uint8]int{}
	for range 25 {
		n := 2 + random.Intn(3)
		m := fresh(t, n)
		g, _ := group.New(n)
		l := []script.Command{word(seed, "any", 40)}
		for name := range n {
			l = append(l, op(publish, name, 2))
		}
		for range 60 {
			l = append(l, anyCommand(random, n))
		}
		var wanted []string
		for _, c := range l {
			lines := reckoned(g, c)
			checkDo(t, m, c, lines...)
			checkGroup(t, "behind "+told(c), m, g)
			wanted = append(wanted, lines...)
			if lines[0] == "ok" {
				well[c.Op]++
			}
		}
		checkDraws(t, m, g)
		text, err := script.Print(n, l...)
		checkError(t, "Print", err, 0)
		checkRun(t, text, wanted...)
		checkRun(t, "# again\n"+strings.ReplaceAll(text, "\n", "  \n\n # x\n"), wanted...)
	}
	for o, word := range words[:show] {
		if well[uint8(o)] < 5 {
			t.Errorf("%s went well %d times only: the test says too little", word, well[uint8(o)])
		}
	}
}
