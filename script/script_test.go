package script_test

import (
	"fmt"
	"math"
	"slices"
	"strings"
	"testing"

	"sapwood/api"
	"sapwood/ct"
	"sapwood/fault"
	"sapwood/script"
)

// What a script may have at most.
const (
	longest  = 65536
	most     = 1000
	greatest = 2147483647
)

// The commands' numbers.
const (
	draw uint8 = iota
	seed
	publish
	create
	update
	deliver
	leave
	drop
	double
	turn
	swap
	put
	show
	all
)

// some is a key that is no other text's.
var some = api.Key{0x0a, 0xff, 0x10, 31: 0x9b}

// checkError: a call's error is of that number (0: it has none).
func checkError(t *testing.T, what string, err error, code api.Errno) {
	t.Helper()
	if fault.Code(err) != code || (err == nil) != (code == 0) {
		t.Errorf("%s: the error is %v, wanted %v", what, err, code)
	}
}

// same: are two commands the same?
func same(a, b script.Command) bool {
	return a.Line == b.Line && a.Op == b.Op && slices.Equal(a.N, b.N) && a.Word == b.Word && a.Key == b.Key
}

// checkParsed: a text is a script of that group, and of these commands.
func checkParsed(t *testing.T, text string, n int, wanted ...script.Command) {
	t.Helper()
	what := fmt.Sprintf("%.80q", text)
	got, l, line, err := script.Parse(text)
	checkError(t, what, err, 0)
	if got != n || line != 0 || !slices.EqualFunc(l, wanted, same) {
		t.Errorf("%s: group %d, line %d, %.300v, wanted group %d, %.300v", what, got, line, l, n, wanted)
	}
}

// checkIll: a text is no script, for that error of that line, and beside it there is nothing.
func checkIll(t *testing.T, text string, line int, code api.Errno) {
	t.Helper()
	what := fmt.Sprintf("%.80q", text)
	n, l, got, err := script.Parse(text)
	checkError(t, what, err, code)
	if n != 0 || len(l) != 0 || got != line || code == 0 {
		t.Errorf("%s: group %d, %v, line %d, wanted the line %d alone", what, n, l, got, line)
	}
}

// checkPrinted: a script is that text.
func checkPrinted(t *testing.T, wanted string, n int, l ...script.Command) {
	t.Helper()
	got, err := script.Print(n, l...)
	checkError(t, fmt.Sprintf("%.80q", wanted), err, 0)
	if got != wanted {
		t.Errorf("%.200q is printed, wanted %.200q", got, wanted)
	}
}

// checkNot: there is no such script.
func checkNot(t *testing.T, what string, code api.Errno, n int, l ...script.Command) {
	t.Helper()
	got, err := script.Print(n, l...)
	checkError(t, what, err, code)
	if got != "" || code == 0 {
		t.Errorf("%s: beside an error there is %.80q", what, got)
	}
}

// lines: that line so often.
func lines(n int, text string) string { return strings.Repeat(text+"\n", n) }

// The example, and that of the first word.
func TestExample(t *testing.T) {
	checkParsed(t, "group 2\ndeliver 1 0\n", 2, script.Command{Line: 2, Op: deliver, N: []int{1, 0}})
}

// commands: one of each, and of create with more numbers, as a text and as a command.
func commands() map[string]script.Command {
	return map[string]script.Command{
		"draw " + ct.Hex(some): {Op: draw, Key: some},
		"seed 4 abc":           {Op: seed, N: []int{4}, Word: "abc"},
		"publish 1 2":          {Op: publish, N: []int{1, 2}},
		"create 0 1":           {Op: create, N: []int{0, 1}},
		"create 3 2 1 0 1 2":   {Op: create, N: []int{3, 2, 1, 0, 1, 2}},
		"update 5":             {Op: update, N: []int{5}},
		"deliver 6 7":          {Op: deliver, N: []int{6, 7}},
		"leave 8":              {Op: leave, N: []int{8}},
		"drop 9 10":            {Op: drop, N: []int{9, 10}},
		"double 11 12":         {Op: double, N: []int{11, 12}},
		"turn 13 14 15 16":     {Op: turn, N: []int{13, 14, 15, 16}},
		"swap 17 18 19":        {Op: swap, N: []int{17, 18, 19}},
		"put 20 6162":          {Op: put, N: []int{20}, Word: "6162"},
		"show 21":              {Op: show, N: []int{21}},
		"all":                  {Op: all},
	}
}

// P27.1, P27.2: each command has its Op, its numbers, in order, its word, its key, all others zero; and is printed so.
func TestCommands(t *testing.T) {
	text, l := "group 3\n", []script.Command(nil)
	for line, c := range commands() {
		checkPrinted(t, "group 3\n"+line+"\n", 3, c)
		c.Line = 2
		checkParsed(t, "group 3\n"+line+"\n", 3, c)
		checkParsed(t, "group 3\n"+line, 3, c)
		c.Line = len(l) + 2
		text, l = text+line+"\n", append(l, c)
	}
	checkParsed(t, text, 3, l...)
	checkPrinted(t, text, 3, l...)
}

// P27.1: each command needs just as many words as its line has, but create.
func TestNumberOfWords(t *testing.T) {
	for line := range commands() {
		words := strings.Split(line, " ")
		for n := 1; n < len(words); n++ {
			if words[0] == "create" && n > 2 {
				continue
			}
			checkIll(t, "group 3\n"+strings.Join(words[:n], " "), 2, api.ErrForm)
		}
		if words[0] != "create" {
			checkIll(t, "group 3\n"+line+" 1", 2, api.ErrForm)
			checkIll(t, "group 3\n"+line+" # 1", 2, api.ErrForm)
		}
	}
	// The number of words is looked for ahead of the words.
	for _, line := range []string{"publish x", "publish 99999999999", "publish x y z", "create x", "turn 1 2 99999999999", "draw x y", "seed x", "all x", "update 99999999999 1"} {
		checkIll(t, "group 3\n"+line, 2, api.ErrForm)
	}
	numbers := make([]int, 30000)
	checkParsed(t, "group 3\ncreate"+strings.Repeat(" 0", 30000), 3, script.Command{Line: 2, Op: create, N: numbers})
	checkPrinted(t, "group 3\ncreate"+strings.Repeat(" 0", 30000)+"\n", 3, script.Command{Op: create, N: numbers})
}

// P27.1: words are parted by blanks alone, one or more, and more may stand ahead and behind.
func TestBlanks(t *testing.T) {
	checkParsed(t, "  group   3  \n   deliver  1 0 ", 3, script.Command{Line: 2, Op: deliver, N: []int{1, 0}})
	checkParsed(t, "group 3\nput   7    x\ty\r \n", 3, script.Command{Line: 2, Op: put, N: []int{7}, Word: "x\ty\r"})
	checkParsed(t, "group 3\nseed 1 \xff\x00\xc2\xa0\n", 3, script.Command{Line: 2, Op: seed, N: []int{1}, Word: "\xff\x00\xc2\xa0"})
	for _, text := range []string{"group\t3", "group 3\r\nall", "group 3\t", "\tgroup 3", "group\u00a03", "group\v3", "group\f3", "group\x003", "\ufeffgroup 3"} {
		checkIll(t, text, 1, api.ErrForm)
	}
	for _, line := range []string{"all\r", "all\t", "\tall", "\t", "\r", "show\t1", "update 1\r", "\u2003", "\x00", "show \t 1"} {
		checkIll(t, "group 3\n"+line+"\n", 2, api.ErrForm)
	}
}

// P27.1: lines without words, and those whose first word begins with #, don't count, but as lines.
func TestLinesThatDoNotCount(t *testing.T) {
	checkParsed(t, "group 2", 2)
	checkParsed(t, "group 2\n", 2)
	checkParsed(t, "group 2\n\n   \n#\n", 2)
	checkParsed(t, "\n\n# first\n  #group 9\n group 2\n#all\n\nall\n\n #x y z\nshow 1\n\n", 2, script.Command{Line: 8, Op: all}, script.Command{Line: 11, Op: show, N: []int{1}})
	checkParsed(t, "##\ngroup 2\nput 1 #x\nseed 0 #\n", 2, script.Command{Line: 3, Op: put, N: []int{1}, Word: "#x"}, script.Command{Line: 4, Op: seed, N: []int{0}, Word: "#"})
	checkIll(t, "# x\n\ngroup 2\n#\n\nall\nall 1\n", 7, api.ErrForm)
	checkIll(t, "\n\n\ngroup x\n", 4, api.ErrForm)
	checkParsed(t, strings.Repeat("\n", longest-7)+"group 2", 2)
	checkParsed(t, "group 2\n"+lines(9000, "#all"), 2)
}

// P27.1: ErrNone, where no line counts.
func TestNoLine(t *testing.T) {
	for _, text := range []string{"", "\n", " ", "\n\n\n", "   \n  ", "#", "# group 2", "#group 2\n\n #all", strings.Repeat("\n", longest), strings.Repeat("#", longest)} {
		checkIll(t, text, 0, api.ErrNone)
	}
}

// P27.1: ErrLong of more than 65536 bytes, whatever they are.
func TestLong(t *testing.T) {
	text := "group 2\nput 1 " + strings.Repeat("x", longest-14)
	checkParsed(t, text, 2, script.Command{Line: 2, Op: put, N: []int{1}, Word: strings.Repeat("x", longest-14)})
	checkIll(t, text+"x", 0, api.ErrLong)
	checkIll(t, text+"\n", 0, api.ErrLong)
	checkParsed(t, "group 2\n"+strings.Repeat(" ", longest-8), 2)
	checkIll(t, "group 2\n"+strings.Repeat(" ", longest-7), 0, api.ErrLong)
	checkIll(t, strings.Repeat("\n", longest+1), 0, api.ErrLong)
	checkIll(t, "nonsense\n"+strings.Repeat("x", longest), 0, api.ErrLong)
	checkIll(t, lines(20000, "all"), 0, api.ErrLong)
}

// P27.1: the first line that counts is the group's, and no other one.
func TestGroup(t *testing.T) {
	for _, n := range []int{0, 1, 2, 16, 17, 1000000000, greatest} {
		checkParsed(t, fmt.Sprint("group ", n), n)
		checkPrinted(t, fmt.Sprint("group ", n, "\n"), n)
	}
	for _, line := range []string{"group", "group 2 3", "group 2 #", "Group 2", "GROUP 2", "groups 2", "grou 2", "2", "group2", "group two", "all", "show 1", "group -2", "group +2", "group 02", "group 00", "group 2.", "group 0x2", "group 1_0", "group \u0662"} {
		checkIll(t, line, 1, api.ErrForm)
		checkIll(t, "#\n"+line+"\nnonsense", 2, api.ErrForm)
	}
	for _, line := range []string{"group 2147483648", "group 4294967298", "group 18446744073709551618", "group 99999999999999999999999999999999"} {
		checkIll(t, line+"\nnonsense", 1, api.ErrRange)
	}
	checkIll(t, "group 2\nall\ngroup 2", 3, api.ErrForm)
}

// P27.1: ErrForm of another first word.
func TestFirstWord(t *testing.T) {
	for _, word := range []string{"x", "All", "ALL", "al", "alll", "all,", "a", "0", "13", "none", "group", "tamper", "\xff", "aII"} {
		checkIll(t, "group 2\nall\n"+word, 3, api.ErrForm)
		checkIll(t, "group 2\nall\n"+word+" 1\nall", 3, api.ErrForm)
		checkIll(t, "group 2\nall\n"+word+" 1 2\nall", 3, api.ErrForm)
	}
}

// P27.1: a number has digits alone, without noughts ahead, and is at most 2147483647.
func TestNumbers(t *testing.T) {
	for _, n := range []int{0, 1, 9, 10, 100, 65536, 999999999, 1000000000, 2147483646, greatest} {
		checkParsed(t, fmt.Sprint("group 2\nshow ", n), 2, script.Command{Line: 2, Op: show, N: []int{n}})
		checkPrinted(t, fmt.Sprint("group 2\nshow ", n, "\n"), 2, script.Command{Op: show, N: []int{n}})
	}
	for _, word := range []string{"x", "-1", "+1", "-0", "00", "01", "007", "0000000000000", "1.", "1.0", "1e3", "0x1", "0b1", "0o1", "1_000", "1,000", "a", "1a", "a1", "\u0661", "1\x00", "\xff", "-", "+", "_", "/", ":", "#1", "02147483648", "099999999999999999999", "-99999999999999999999", "99999999999999999999x"} {
		checkIll(t, "group 2\nshow "+word, 2, api.ErrForm)
		checkIll(t, "group 2\nturn 1 2 3 "+word, 2, api.ErrForm)
		checkIll(t, "group 2\nput "+word+" x", 2, api.ErrForm)
		checkIll(t, "group 2\ncreate 0 1 2 "+word, 2, api.ErrForm)
	}
	for _, word := range []string{"2147483648", "2147483650", "3000000000", "4294967295", "4294967296", "4294967297", "9223372036854775807", "9223372036854775808", "18446744073709551615", "18446744073709551616", "18446744073709551617", strings.Repeat("9", 400)} {
		checkIll(t, "group 2\nshow "+word, 2, api.ErrRange)
		checkIll(t, "group 2\nturn 1 2 3 "+word, 2, api.ErrRange)
		checkIll(t, "group 2\nseed "+word+" x", 2, api.ErrRange)
		checkIll(t, "group 2\ncreate 0 1 2 "+word, 2, api.ErrRange)
	}
}

// P27.1: of a line's words the first that isn't so tells the error; of lines the first.
func TestOrder(t *testing.T) {
	checkIll(t, "group 2\ndeliver x 2147483648", 2, api.ErrForm)
	checkIll(t, "group 2\ndeliver 2147483648 x", 2, api.ErrRange)
	checkIll(t, "group 2\nturn 0 1 2147483648 x", 2, api.ErrRange)
	checkIll(t, "group 2\nturn 0 01 2147483648 1", 2, api.ErrForm)
	checkIll(t, "group 2\ncreate 0 1 2 3 2147483648 5 x", 2, api.ErrRange)
	checkIll(t, "group 2\nall\nshow 2147483648\nnonsense", 3, api.ErrRange)
	checkIll(t, "group 2\nall\nnonsense\nshow 2147483648", 3, api.ErrForm)
	checkIll(t, "group 2147483648\nnonsense", 1, api.ErrRange)
	checkIll(t, "nonsense\nshow 2147483648", 1, api.ErrForm)
}

// P27.1: a key is 64 digits to the base 16, small or great.
func TestKeys(t *testing.T) {
	text := ct.Hex(some)
	checkParsed(t, "group 2\ndraw "+strings.ToUpper(text), 2, script.Command{Line: 2, Op: draw, Key: some})
	checkParsed(t, "group 2\ndraw "+strings.ToUpper(text[:9])+text[9:], 2, script.Command{Line: 2, Op: draw, Key: some})
	checkParsed(t, "group 2\ndraw "+strings.Repeat("0", 64), 2, script.Command{Line: 2, Op: draw})
	for _, word := range []string{"x", "0", text[1:], text + "0", text[2:], text + "00", "0x" + text[2:], text[:63] + "g", "-" + text[1:], "g" + text[1:], text[:31] + "_" + text[32:]} {
		checkIll(t, "group 2\ndraw "+word+"\nshow 2147483648", 2, api.ErrForm)
	}
}

// P27.1: there are at most 1000 commands; the 1001st is ErrMany, whatever stands in it, but ahead of that each line tells its own error.
func TestMany(t *testing.T) {
	text, l := "# 1\ngroup 2\n\n", []script.Command(nil)
	for i := range most {
		text += "all\n#\n"
		l = append(l, script.Command{Line: 4 + 2*i, Op: all})
	}
	checkParsed(t, text, 2, l...)
	for _, line := range []string{"all", "show 1", "nonsense", "group 2", "all 1", "show x", "show 2147483648", "draw x"} {
		checkIll(t, text+line, 2004, api.ErrMany)
		checkIll(t, text+"\n#\n"+line+"\nnonsense", 2006, api.ErrMany)
	}
	checkIll(t, "group 2\n"+lines(most-1, "all")+"nonsense\nall\n", most+1, api.ErrForm)
	checkIll(t, "group 2\n"+lines(most-1, "all")+"show 2147483648\nall\n", most+1, api.ErrRange)
	checkIll(t, "group x\n"+lines(most+1, "all"), 1, api.ErrForm)
	checkIll(t, "group 2\nnonsense\n"+lines(most+1, "all"), 2, api.ErrForm)
	checkIll(t, "group 2\n"+lines(3*most, "all"), most+2, api.ErrMany)
}

// P27.2: a script without commands is the group's line alone.
func TestPrintNone(t *testing.T) {
	checkPrinted(t, "group 5\n", 5)
	checkPrinted(t, "group 0\n", 0, []script.Command{}...)
}

// P27.2: Key plays no part of an Op that has none, nor does Line.
func TestPrintNoPart(t *testing.T) {
	for line, c := range commands() {
		for _, n := range []int{-1, 1, 7, math.MaxInt} {
			c.Line = n
			if c.Op != draw {
				c.Key = api.Key{byte(n), 31: 1}
			}
			checkPrinted(t, "group 3\n"+line+"\n", 3, c)
		}
	}
	checkPrinted(t, "group 3\ndraw "+strings.Repeat("0", 64)+"\n", 3, script.Command{Op: draw})
}

// P27.2: ErrMany of more than 1000 commands, ahead of all.
func TestPrintMany(t *testing.T) {
	l := make([]script.Command, most+1)
	for i := range l {
		l[i].Op = all
	}
	checkPrinted(t, "group 2\n"+lines(most, "all"), 2, l[:most]...)
	checkNot(t, "1001 commands", api.ErrMany, 2, l...)
	checkNot(t, "of no group", api.ErrMany, -1, l...)
	l[0].Op = 99
	checkNot(t, "the first of which is none", api.ErrMany, 2, l...)
}

// P27.2: ErrRange of an n that isn't from 0 to 2147483647, ahead of what the commands are.
func TestPrintGroup(t *testing.T) {
	for _, n := range []int{-1, -2, math.MinInt, greatest + 1, 1 << 32, 1<<32 + 2, math.MaxInt} {
		checkNot(t, fmt.Sprint("group ", n), api.ErrRange, n)
		checkNot(t, fmt.Sprint("group ", n, " of an Op that is none"), api.ErrRange, n, script.Command{Op: 14})
	}
}

// P27.2: ErrForm of an Op above 13, and of another number of numbers.
func TestPrintForm(t *testing.T) {
	for _, op := range []uint8{14, 15, 16, 127, 128, 255} {
		checkNot(t, fmt.Sprint("the Op ", op), api.ErrForm, 2, script.Command{Op: op})
		checkNot(t, fmt.Sprint("the Op ", op), api.ErrForm, 2, script.Command{Op: op, N: []int{1, 1}, Word: "x"})
	}
	needs := map[uint8]int{draw: 0, seed: 1, publish: 2, create: 2, update: 1, deliver: 2, leave: 1, drop: 2, double: 2, turn: 4, swap: 3, put: 1, show: 1, all: 0}
	for op, needed := range needs {
		c := script.Command{Op: op}
		if op == seed || op == put {
			c.Word = "x"
		}
		for n := range 7 {
			c.N = make([]int, n)
			if n == needed || op == create && n > needed {
				text, err := script.Print(2, c)
				checkError(t, text, err, 0)
			} else {
				checkNot(t, fmt.Sprint("the Op ", op, " of ", n, " numbers"), api.ErrForm, 2, c)
			}
		}
	}
}

// P27.2: ErrForm of a word where there is none, of none where there is one, and of one that is more than a word.
func TestPrintWords(t *testing.T) {
	for line, c := range commands() {
		if c.Op != seed && c.Op != put {
			for _, word := range []string{"x", " ", "\n", "#"} {
				c.Word = word
				checkNot(t, line+" with a word", api.ErrForm, 3, c)
			}
			continue
		}
		for _, word := range []string{"", " ", "\n", " x", "x ", "x y", "x\n", "\nx", "x\ny", strings.Repeat("x", 999) + " "} {
			c.Word = word
			checkNot(t, fmt.Sprintf("%s with the word %q", line, word), api.ErrForm, 3, c)
		}
		for _, word := range []string{"#", "#x", "1", "\t", "x\ty", "\r", "\x00", "\xff", "\u00a0", "all"} {
			c.Word, c.Line = word, 2
			text := fmt.Sprint("group 3\n", strings.Fields(line)[0], " ", c.N[0], " ", word, "\n")
			checkPrinted(t, text, 3, c)
			checkParsed(t, text, 3, c)
		}
	}
}

// P27.2: ErrRange of a number that isn't from 0 to 2147483647.
func TestPrintNumbers(t *testing.T) {
	for line, c := range commands() {
		for i := range c.N {
			for _, n := range []int{-1, math.MinInt, greatest + 1, 1 << 32, math.MaxInt} {
				ill := c
				ill.N = slices.Clone(c.N)
				ill.N[i] = n
				checkNot(t, fmt.Sprint(line, " with ", n), api.ErrRange, 3, ill)
			}
			well := c
			well.N = slices.Clone(c.N)
			well.N[i] = greatest
			text, err := script.Print(3, well)
			checkError(t, text, err, 0)
		}
	}
}

// P27.2: command by command, first what it is, then its numbers; and behind all how long it is.
func TestPrintOrder(t *testing.T) {
	form, beyond := script.Command{Op: 14}, script.Command{Op: show, N: []int{-1}}
	long := script.Command{Op: put, N: []int{1}, Word: strings.Repeat("x", longest)}
	checkNot(t, "form, range", api.ErrForm, 2, form, beyond)
	checkNot(t, "range, form", api.ErrRange, 2, beyond, form)
	checkNot(t, "long, form", api.ErrForm, 2, long, form)
	checkNot(t, "long, range", api.ErrRange, 2, long, long, beyond)
	checkNot(t, "form and range in one", api.ErrForm, 2, script.Command{Op: show, N: []int{-1, 1}})
	checkNot(t, "no word, and range in one", api.ErrForm, 2, script.Command{Op: put, N: []int{-1}})
	checkNot(t, "range in a long one", api.ErrRange, 2, script.Command{Op: put, N: []int{-1}, Word: long.Word})
	checkNot(t, "long, and no word", api.ErrForm, 2, script.Command{Op: put, N: []int{1}, Word: long.Word + " "})
}

// P27.2: ErrLong of what would have more than 65536 bytes.
func TestPrintLong(t *testing.T) {
	c := script.Command{Op: put, N: []int{1}, Word: strings.Repeat("x", longest-15)} // group 2, put 1, and both line feeds
	text := "group 2\nput 1 " + c.Word + "\n"
	checkPrinted(t, text, 2, c)
	if len(text) != longest {
		t.Errorf("the test itself is wrong: %d bytes", len(text))
	}
	checkNot(t, "a group's number of a digit more", api.ErrLong, 10, c)
	checkNot(t, "a command more", api.ErrLong, 2, c, script.Command{Op: all})
	c.Word += "x"
	checkNot(t, "a byte more", api.ErrLong, 2, c)
	draws := make([]script.Command, most)
	checkNot(t, "many draws", api.ErrLong, 2, draws...)
	checkNot(t, "many numbers", api.ErrLong, 2, script.Command{Op: create, N: make([]int, 40000)})
	for i := range draws {
		draws[i] = script.Command{Op: seed, N: []int{1}, Word: strings.Repeat("y", 57)} // lines of 65 bytes
	}
	checkPrinted(t, "group 2\n"+lines(most, "seed 1 "+strings.Repeat("y", 57)), 2, draws...)
	for i := range draws {
		draws[i].Word += "y"
	}
	checkNot(t, "many words", api.ErrLong, 2, draws...)
}

// P27.1, P27.2: what is handed in stays as it was, and what is answered is its own.
func TestMemory(t *testing.T) {
	text := "group 3\ncreate 0 1 2\ncreate 0 1 2\n"
	_, a, _, _ := script.Parse(text)
	_, b, _, _ := script.Parse(text)
	a[0].N[0], a[0].Op = 9, 9
	_ = append(a[0].N, 8)
	wanted := []int{0, 1, 2}
	if !slices.Equal(a[1].N, wanted) || !slices.Equal(b[0].N, wanted) || b[0].Op != create || !slices.Equal(b[1].N, wanted) {
		t.Errorf("another list is %v, %v", a[1], b)
	}
	numbers := [6]int{0, 1, 2, 77, 78, 79}
	l := [3]script.Command{{Op: create, N: numbers[:3]}, {Op: all}, {Op: 99}}
	checkPrinted(t, "group 3\ncreate 0 1 2\nall\n", 3, l[:2]...)
	if numbers != [6]int{0, 1, 2, 77, 78, 79} || !same(l[0], script.Command{Op: create, N: numbers[:3]}) || !same(l[1], script.Command{Op: all}) || l[2].Op != 99 {
		t.Errorf("what was handed in is %v, %v", numbers, l)
	}
}
