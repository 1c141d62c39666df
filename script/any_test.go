package script_test

import (
	"fmt"
	"math/rand"
	"slices"
	"strings"
	"testing"

	"sapwood/api"
	"sapwood/ct"
	"sapwood/script"
)

// kinds: of each Op its word and what stands behind it; + is one number or more.
var kinds = []string{"draw K", "seed N W", "publish N N", "create N +", "update N", "deliver N N", "leave N", "drop N N", "double N N", "turn N N N N", "swap N N N", "put N W", "show N", "all"}

// pick: one of these.
func pick[T any](random *rand.Rand, l ...T) T { return l[random.Intn(len(l))] }

// anyNumber: one that a script may have.
func anyNumber(random *rand.Rand) int {
	return pick(random, 0, 1, random.Intn(20), random.Intn(greatest), greatest)
}

// anyWord: bytes, any but blanks and line feeds.
func anyWord(random *rand.Rand) string {
	word := make([]byte, 1+random.Intn(8))
	for i := range word {
		for word[i] = ' '; word[i] == ' ' || word[i] == '\n'; {
			word[i] = pick(random, byte(random.Intn(256)), byte('a'+random.Intn(26)), '#', '\t')
		}
	}
	return string(word)
}

// anyKey: a key.
func anyKey(random *rand.Rand) api.Key {
	var k api.Key
	random.Read(k[:])
	return k
}

// anyCommand: one that a script may have, and its line.
func anyCommand(random *rand.Rand) (script.Command, string) {
	op := random.Intn(len(kinds))
	c := script.Command{Op: uint8(op)}
	words := strings.Fields(kinds[op])
	line := words[0]
	for _, kind := range words[1:] {
		switch kind {
		case "N":
			c.N = append(c.N, anyNumber(random))
			line += fmt.Sprint(" ", c.N[len(c.N)-1])
		case "+":
			for range 1 + random.Intn(5) {
				c.N = append(c.N, anyNumber(random))
				line += fmt.Sprint(" ", c.N[len(c.N)-1])
			}
		case "W":
			c.Word = anyWord(random)
			line += " " + c.Word
		case "K":
			c.Key = anyKey(random)
			line += fmt.Sprintf(" %x", c.Key)
		}
	}
	return c, line
}

// P27.3: what is printed is parsed as it was, but for Line, and keys that play no part.
func TestPrintedIsParsed(t *testing.T) {
	random := rand.New(rand.NewSource(27))
	for range 300 {
		n := anyNumber(random)
		text := fmt.Sprint("group ", n, "\n")
		var l, wanted []script.Command
		for i := range random.Intn(20) {
			c, line := anyCommand(random)
			text += line + "\n"
			c.Line = i + 2
			wanted = append(wanted, c)
			c.Line = random.Intn(9) - 4
			if c.Op != draw {
				c.Key = anyKey(random)
			}
			l = append(l, c)
		}
		checkPrinted(t, text, n, l...)
		checkParsed(t, text, n, wanted...)
	}
}

// anyScrap: what may stand in a line in a word's place, likely or not.
func anyScrap(random *rand.Rand) string {
	kind := strings.Fields(pick(random, kinds...))
	return pick(random, kind[0], kind[0], "group", "0", "1", "7", "12", "01", "-3", "2147483647", "2147483648", "99999999999999999999", "x", "#", "#x", ct.Hex(api.Key{1}), "\t", anyWord(random))
}

// anyText: lines of words, most of which are so as they should be.
func anyText(random *rand.Rand) string {
	var text strings.Builder
	blanks := func(fewest int) { text.WriteString(strings.Repeat(" ", fewest+max(0, random.Intn(8)-5))) }
	word := func(word string) {
		if random.Intn(60) == 0 {
			word = anyScrap(random)
		}
		text.WriteString(word)
	}
	for i := range random.Intn(9) {
		_, line := anyCommand(random)
		if i == 0 {
			line = "group 2"
		}
		if random.Intn(8) == 0 {
			line = pick(random, "", "#", "# x", "#"+line)
		}
		blanks(0)
		for k, w := range strings.Split(line, " ") {
			if k > 0 {
				blanks(1)
			}
			word(w)
		}
		if random.Intn(40) == 0 {
			text.WriteString(" " + anyScrap(random))
		}
		blanks(0)
		text.WriteString("\n")
	}
	return strings.TrimSuffix(text.String(), pick(random, "", "\n"))
}

// model: what a text is, by the document's words, where it isn't long.
func model(text string) (n int, l []script.Command, line int, code api.Errno) {
	counted := 0
	for i, s := range strings.Split(text, "\n") {
		words := slices.DeleteFunc(strings.Split(s, " "), func(word string) bool { return word == "" })
		if len(words) == 0 || words[0][0] == '#' {
			continue
		}
		counted++
		all := kinds
		if counted == 1 {
			all = []string{"group N"}
		}
		c, code := modelLine(all, words)
		if counted > most+1 {
			code = api.ErrMany
		}
		if code != 0 {
			return 0, nil, i + 1, code
		}
		if counted == 1 {
			n = c.N[0]
			continue
		}
		c.Line = i + 1
		l = append(l, c)
	}
	if counted == 0 {
		return 0, nil, 0, api.ErrNone
	}
	return n, l, 0, 0
}

// modelLine: what a line's words are, of these kinds.
func modelLine(all []string, words []string) (c script.Command, code api.Errno) {
	for op, kind := range all {
		wanted := strings.Fields(kind)
		if wanted[0] != words[0] {
			continue
		}
		for wanted[len(wanted)-1] == "+" && len(wanted) < len(words) {
			wanted = append(slices.Clone(wanted[:len(wanted)-1]), "N", "+")
		}
		if len(wanted) != len(words) {
			return c, api.ErrForm
		}
		c.Op = uint8(op)
		for i := 1; i < len(words) && code == 0; i++ {
			code = modelWord(&c, wanted[i], words[i])
		}
		return c, code
	}
	return c, api.ErrForm
}

// modelWord: what a word is, of that kind.
func modelWord(c *script.Command, kind, word string) api.Errno {
	if kind == "W" {
		c.Word = word
		return 0
	}
	if kind == "K" {
		var ok bool
		if c.Key, ok = ct.Parse(word); !ok {
			return api.ErrForm
		}
		return 0
	}
	if strings.Trim(word, "0123456789") != "" || word != "0" && word[0] == '0' {
		return api.ErrForm
	}
	n := 0
	for _, digit := range []byte(word) {
		if n = 10*n + int(digit-'0'); n > greatest {
			return api.ErrRange
		}
	}
	c.N = append(c.N, n)
	return 0
}

// P27.1: whatever stands in a text, it is parsed as the words say; and what is parsed is printed, and parsed as it was.
func TestAnyText(t *testing.T) {
	random := rand.New(rand.NewSource(2727))
	met := map[api.Errno]int{}
	for range 20000 {
		text := anyText(random)
		n, l, line, code := model(text)
		met[code]++
		if code != 0 {
			checkIll(t, text, line, code)
			continue
		}
		checkParsed(t, text, n, l...)
		again, err := script.Print(n, l...)
		checkError(t, "Print", err, 0)
		for i := range l {
			l[i].Line = i + 2
		}
		checkParsed(t, again, n, l...)
	}
	for _, code := range []api.Errno{0, api.ErrNone, api.ErrForm, api.ErrRange} {
		if met[code] < 100 {
			t.Errorf("%v was met %d times only: the test says too little", code, met[code])
		}
	}
}

// P1: Parse ends, and doesn't panic, whatever the bytes are.
func FuzzParse(f *testing.F) {
	for _, text := range []string{"", "group 2", "group 2\ndraw x", "group 2\nturn 1 2 3 4\nput 1 x y\n#", "group 2\nall\nall 1"} {
		f.Add(text)
	}
	f.Fuzz(func(t *testing.T, text string) {
		if len(text) > longest {
			checkIll(t, text, 0, api.ErrLong)
		} else if n, l, line, code := model(text); code != 0 {
			checkIll(t, text, line, code)
		} else {
			checkParsed(t, text, n, l...)
		}
	})
}
