package codec_test

import (
	"encoding/binary"
	"errors"
	"io"
	"math"
	"math/rand"
	"slices"
	"strings"
	"testing"

	"sapwood/api"
	"sapwood/codec"
	"sapwood/fault"
)

// anyText: so many bytes, any of them.
func anyText(random *rand.Rand, n int) string {
	b := make([]byte, n)
	random.Read(b)
	return string(b)
}

// anyKeys: some keys.
func anyKeys(random *rand.Rand, n int) []api.Key {
	keys := make([]api.Key, n)
	for i := range keys {
		random.Read(keys[i][:])
	}
	return keys
}

// joined: the bytes of keys.
func joined(keys ...api.Key) string {
	var text []byte
	for _, k := range keys {
		text = append(text, k[:]...)
	}
	return string(text)
}

// bytesOf: a number's lowest bytes, by the library.
func bytesOf(size int, n uint64) string {
	return string(binary.BigEndian.AppendUint64(nil, n)[8-size:])
}

// edges: numbers whose bytes are unlike, and those at the bounds.
func edges() []uint64 {
	list := []uint64{0, 1, 2, 255, 256, 258, 0x0102030405060708, 0xfedcba9876543210, math.MaxUint64}
	for size := 1; size < 8; size++ {
		list = append(list, 1<<(8*size)-1, 1<<(8*size), 1<<(8*size)+1)
	}
	return list
}

// checkText: a writer has these bytes.
func checkText(t *testing.T, what string, w codec.Writer, wanted string) {
	t.Helper()
	if got := w.Text(); got != wanted {
		t.Errorf("%s: Text is %.80x, wanted %.80x", what, got, wanted)
	}
}

// checkReader: a reader has so many bytes left, and that error (0: none).
func checkReader(t *testing.T, what string, r *codec.Reader, left int, code api.Errno) {
	t.Helper()
	for range 2 { // to ask it changes nothing
		if got := r.Left(); got != left {
			t.Errorf("%s: Left is %d, wanted %d", what, got, left)
		}
		if err := r.End(); fault.Code(err) != code || (err == nil) != (code == 0) {
			t.Errorf("%s: End is %v, wanted %v", what, err, code)
		}
	}
}

// checkNothing: whatever is asked of a reader, it takes nothing and answers nothing, and its error stays.
func checkNothing(t *testing.T, what string, r *codec.Reader, left int, code api.Errno) {
	t.Helper()
	for _, n := range []int{math.MinInt, -1, 0, 1, 2, 8, 9, math.MaxInt} {
		if got := r.Num(n); got != 0 {
			t.Errorf("%s: Num of %d is %d", what, n, got)
		}
		if got := r.Keys(n); len(got) != 0 {
			t.Errorf("%s: Keys of %d is %x", what, n, got)
		}
		if got := r.Key(); got != (api.Key{}) {
			t.Errorf("%s: Key is %x", what, got)
		}
		r.Fail(api.ErrLong)
		r.Fail(nil)
		checkReader(t, what, r, left, code)
	}
}

// The example.
func TestExample(t *testing.T) {
	checkText(t, "Num of 2 and 258", codec.Writer{}.Num(2, 258), "\x01\x02")
}

// P16.1: the zero writer has no bytes.
func TestZeroWriter(t *testing.T) {
	var w codec.Writer
	checkText(t, "the zero writer", w, "")
	checkText(t, "nothing behind", w.Num(0, 7).Keys().Raw("").Keys([]api.Key{}...), "")
}

// P16.1: of each size the lowest bytes, the highest of them first.
func TestWriteNum(t *testing.T) {
	for _, n := range edges() {
		for size := range 9 {
			checkText(t, "Num", codec.Writer{}.Num(size, n), bytesOf(size, n))
			checkText(t, "Num behind others", codec.Writer{}.Raw("x").Num(size, n).Raw("y"), "x"+bytesOf(size, n)+"y")
		}
	}
	checkText(t, "Num of 3", codec.Writer{}.Num(3, 0x0102030405060708), "\x06\x07\x08")
}

// P16.1: of a size below 0 no bytes, of one above 8 eight.
func TestWriteNumOfOtherSize(t *testing.T) {
	for _, n := range edges() {
		for _, size := range []int{math.MinInt, math.MinInt32, -256, -8, -1} {
			checkText(t, "Num of a size below 0", codec.Writer{}.Raw("x").Num(size, n).Raw("y"), "xy")
		}
		for _, size := range []int{9, 10, 16, 256, 264, math.MaxInt32, math.MaxInt} {
			checkText(t, "Num of a size above 8", codec.Writer{}.Raw("x").Num(size, n).Raw("y"), "x"+bytesOf(8, n)+"y")
		}
	}
}

// P16.1: keys and bytes stand behind, as they are, in order.
func TestWriteKeys(t *testing.T) {
	random := rand.New(rand.NewSource(1))
	for n := range 6 {
		keys := anyKeys(random, n)
		checkText(t, "Keys", codec.Writer{}.Keys(keys...), joined(keys...))
		checkText(t, "Keys behind others", codec.Writer{}.Raw("x").Keys(keys...).Raw("y").Keys(keys...), "x"+joined(keys...)+"y"+joined(keys...))
	}
	keys := anyKeys(random, 4096)
	checkText(t, "many keys", codec.Writer{}.Keys(keys...), joined(keys...))
}

// P16.1: Raw is of any bytes.
func TestWriteRaw(t *testing.T) {
	random := rand.New(rand.NewSource(2))
	text := ""
	var w codec.Writer
	for _, s := range []string{"", "x", "\x00", "\xff\xfe", "ä\n", anyText(random, 100000), "", "end"} {
		w, text = w.Raw(s), text+s
		checkText(t, "Raw", w, text)
	}
}

// P16.1, P1: also of very many things that are written one behind the other.
func TestWriteVeryOften(t *testing.T) {
	const many = 1000000
	var w codec.Writer
	for i := range uint64(many) {
		w = w.Num(4, i)
	}
	r := codec.Over(w.Text())
	for i := range uint64(many) {
		if got := r.Num(4); got != i {
			t.Fatalf("the number %d is %d", i, got)
		}
	}
	checkReader(t, "behind all", r, 0, 0)
}

// P16.1: a writer stays as it was, and those that came of it have nothing of each other.
func TestWriterIsAValue(t *testing.T) {
	for n := range 70 {
		begun := strings.Repeat("b", n)
		w := codec.Writer{}
		for range n {
			w = w.Raw("b")
		}
		one, two, three := w.Num(4, 0x01020304), w.Raw("four"), w.Keys(api.Key{1}, api.Key{2})
		four := one.Raw("x")
		checkText(t, "what others came of", w, begun)
		checkText(t, "with a number", one, begun+"\x01\x02\x03\x04")
		checkText(t, "with bytes", two, begun+"four")
		checkText(t, "with keys", three, begun+joined(api.Key{1}, api.Key{2}))
		checkText(t, "with a number and bytes", four, begun+"\x01\x02\x03\x04x")
	}
}

// Rules: the keys that are handed in are neither changed nor kept.
func TestKeysAreNotKept(t *testing.T) {
	keys := anyKeys(rand.New(rand.NewSource(3)), 5)
	before := slices.Clone(keys)
	w := codec.Writer{}.Keys(keys[:3]...)
	if !slices.Equal(keys, before) {
		t.Errorf("Keys changed what it was handed: %x", keys)
	}
	clear(keys)
	checkText(t, "Keys", w, joined(before[:3]...))
}

// P16.2: a number's bytes are read with the highest first, and are taken.
func TestReadNum(t *testing.T) {
	for _, n := range edges() {
		for size := range 9 {
			for _, behind := range []string{"", "y"} {
				r := codec.Over(bytesOf(size, n) + behind)
				wanted := n
				if size < 8 {
					wanted = n & (1<<(8*size) - 1)
				}
				if got := r.Num(size); got != wanted {
					t.Errorf("Num of %d is %x, wanted %x", size, got, wanted)
				}
				code := api.Errno(0)
				if behind != "" {
					code = api.ErrTrailing
				}
				checkReader(t, "behind Num", r, len(behind), code)
			}
		}
	}
}

// P16.2: of a size below 0 nothing is taken, of one above 8 eight bytes.
func TestReadNumOfOtherSize(t *testing.T) {
	const text = "\x01\x02\x03\x04\x05\x06\x07\x08\x09\x0a"
	for _, size := range []int{math.MinInt, math.MinInt32, -8, -1, 0} {
		r := codec.Over(text)
		if got := r.Num(size); got != 0 {
			t.Errorf("Num of %d is %d", size, got)
		}
		checkReader(t, "Num of a size below 0", r, 10, api.ErrTrailing)
		r = codec.Over("")
		if got := r.Num(size); got != 0 {
			t.Errorf("Num of %d is %d", size, got)
		}
		checkReader(t, "Num of a size below 0, of no bytes", r, 0, 0)
	}
	for _, size := range []int{8, 9, 10, 11, 256, math.MaxInt32, math.MaxInt} {
		r := codec.Over(text)
		if got := r.Num(size); got != 0x0102030405060708 {
			t.Errorf("Num of %d is %x", size, got)
		}
		checkReader(t, "Num of a size above 8", r, 2, api.ErrTrailing)
		r = codec.Over(text[:7])
		if got := r.Num(size); got != 0 {
			t.Errorf("Num of %d is %x", size, got)
		}
		checkNothing(t, "Num of a size above 8, of seven bytes", r, 7, api.ErrTruncated)
	}
}

// P16.2: a key is read as it stands there, and is taken.
func TestReadKey(t *testing.T) {
	keys := anyKeys(rand.New(rand.NewSource(4)), 3)
	r := codec.Over(joined(keys...))
	for i, k := range keys {
		checkReader(t, "ahead of a key", r, 32*(3-i), api.ErrTrailing)
		if got := r.Key(); got != k {
			t.Errorf("Key %d is %x, wanted %x", i, got, k)
		}
	}
	checkReader(t, "behind all keys", r, 0, 0)
}

// P16.2: Keys takes as many as it is asked, in order; below 0 none, without an error.
func TestReadKeys(t *testing.T) {
	random := rand.New(rand.NewSource(5))
	keys := anyKeys(random, 70)
	for _, n := range []int{0, 1, 2, 31, 32, 33, 64, 70} {
		for _, behind := range []int{1, 31, 32, 100} {
			r := codec.Over(joined(keys[:n]...) + anyText(random, behind))
			if got := r.Keys(n); !slices.Equal(got, keys[:n]) {
				t.Errorf("Keys of %d is %x", n, got)
			}
			checkReader(t, "behind Keys", r, behind, api.ErrTrailing)
		}
		r := codec.Over(joined(keys[:n]...))
		if got := r.Keys(n); !slices.Equal(got, keys[:n]) {
			t.Errorf("Keys of %d is %x", n, got)
		}
		checkReader(t, "behind all Keys", r, 0, 0)
	}
	for _, n := range []int{math.MinInt, -1 << 59, 1 - 1<<59, 2 - 1<<59, -1 << 58, -32, -1, 0} {
		r := codec.Over(joined(keys[:2]...))
		if got := r.Keys(n); len(got) != 0 {
			t.Errorf("Keys of %d is %x", n, got)
		}
		checkReader(t, "Keys of a number below 0", r, 64, api.ErrTrailing)
	}
}

// P16.2: where fewer bytes are left there is nothing, and none is taken, also of keys of which some stand there.
func TestTruncated(t *testing.T) {
	random := rand.New(rand.NewSource(6))
	for left := range 8 {
		for size := left + 1; size <= 8; size++ {
			r := codec.Over(anyText(random, left))
			if got := r.Num(size); got != 0 {
				t.Errorf("Num of %d, of %d bytes, is %d", size, left, got)
			}
			checkNothing(t, "a number that isn't whole", r, left, api.ErrTruncated)
		}
	}
	for left := range 32 {
		r := codec.Over(anyText(random, left))
		if got := r.Key(); got != (api.Key{}) {
			t.Errorf("Key of %d bytes is %x", left, got)
		}
		checkNothing(t, "a key that isn't whole", r, left, api.ErrTruncated)
	}
	for _, left := range []int{0, 1, 31, 32, 63, 64, 95, 96, 127} {
		for _, n := range []int{left/32 + 1, left/32 + 2, 100, 1 << 30, 1 << 58, 1 << 59, 1<<59 + 1, 1<<59 + 2, math.MaxInt/32 + 1, math.MaxInt - 1, math.MaxInt} {
			r := codec.Over(anyText(random, left))
			if got := r.Keys(n); len(got) != 0 {
				t.Errorf("Keys of %d, of %d bytes, is %x", n, left, got)
			}
			checkNothing(t, "keys that aren't all whole", r, left, api.ErrTruncated)
		}
	}
}

// P16.2: what stood ahead was taken, and what was answered then stays.
func TestTruncatedLater(t *testing.T) {
	keys := anyKeys(rand.New(rand.NewSource(7)), 2)
	r := codec.Over("\x01\x02" + joined(keys...) + "\x03")
	n, k, l := r.Num(2), r.Key(), r.Keys(1)
	if r.Num(2) != 0 {
		t.Error("of one byte there is a number of two")
	}
	if n != 258 || k != keys[0] || !slices.Equal(l, keys[1:]) {
		t.Errorf("%d, %x and %x were read", n, k, l)
	}
	checkNothing(t, "one byte", r, 1, api.ErrTruncated)
}

// P16.2: the first error stays, of whatever kind, and nil is none.
func TestFail(t *testing.T) {
	for e := api.ErrTruncated; e <= api.ErrLong; e++ {
		for _, err := range []error{e, fault.Wrap("a", e), fault.Wrap("b", fault.Wrap("a", e))} {
			for _, text := range []string{"", "x", joined(api.Key{1}, api.Key{2})} {
				r := codec.Over(text)
				r.Fail(nil)
				r.Fail(err)
				checkNothing(t, "behind Fail", r, len(text), e)
				if r.End() != err {
					t.Errorf("End is %v, wanted %v", r.End(), err)
				}
			}
		}
	}
}

// P16.2: nil isn't an error: the reader reads on.
func TestFailOfNil(t *testing.T) {
	r := codec.Over("\x07")
	r.Fail(nil)
	checkReader(t, "behind Fail of nil", r, 1, api.ErrTrailing)
	if got := r.Num(1); got != 7 {
		t.Errorf("Num is %d", got)
	}
	r.Fail(nil)
	checkReader(t, "behind all", r, 0, 0)
	r.Fail(api.ErrForm)
	checkNothing(t, "behind all, and Fail", r, 0, api.ErrForm)
}

// P16.2: an error that it was told comes ahead of that of bytes that aren't there, or are left, only if it came first.
func TestFirstError(t *testing.T) {
	r := codec.Over("x")
	r.Fail(api.ErrVersion)
	r.Num(2)
	checkReader(t, "Fail, and truncated", r, 1, api.ErrVersion)
	r = codec.Over("x")
	r.Num(2)
	r.Fail(api.ErrVersion)
	checkReader(t, "truncated, and Fail", r, 1, api.ErrTruncated)
	r = codec.Over("x")
	if fault.Code(r.End()) != api.ErrTrailing {
		t.Error("a byte is left")
	}
	r.Fail(api.ErrVersion)
	checkReader(t, "trailing, and Fail", r, 1, api.ErrVersion)
}

// P16.2: End's ErrTrailing isn't kept: what is left can be read behind it.
func TestEndIsNotKept(t *testing.T) {
	r := codec.Over("\x01\x02\x03")
	for i := range 3 {
		checkReader(t, "bytes are left", r, 3-i, api.ErrTrailing)
		if got := r.Num(1); got != uint64(i+1) {
			t.Errorf("Num is %d", got)
		}
	}
	checkReader(t, "no bytes are left", r, 0, 0)
}

// P16.2: also an error of another kind is one.
func TestFailOfOtherKind(t *testing.T) {
	r := codec.Over("x")
	r.Fail(io.EOF)
	if r.Num(1) != 0 || r.Left() != 1 || !errors.Is(r.End(), io.EOF) {
		t.Errorf("End is %v", r.End())
	}
}

// P16.2: of a nil reader 0, zero, none, ErrNil.
func TestNilReader(t *testing.T) {
	var r *codec.Reader
	checkNothing(t, "a nil reader", r, 0, api.ErrNil)
}

// P16.2: two readers of the same bytes have nothing of each other.
func TestReadersAreTheirOwn(t *testing.T) {
	const text = "\x01\x02"
	one, two := codec.Over(text), codec.Over(text)
	one.Num(1)
	one.Fail(api.ErrKind)
	checkReader(t, "the other one", two, 2, api.ErrTrailing)
	if got := two.Num(2); got != 258 {
		t.Errorf("Num is %d", got)
	}
	checkReader(t, "the one", one, 1, api.ErrKind)
}

// Rules: an answer is nobody else's memory, spare room included, and errors that are answered share none.
func TestAnswersAreNew(t *testing.T) {
	keys := anyKeys(rand.New(rand.NewSource(8)), 6)
	r := codec.Over(joined(keys...))
	first, second := r.Keys(3), r.Keys(3)
	for i := range first[:cap(first)] {
		first[:cap(first)][i] = api.Key{}
	}
	if !slices.Equal(second, keys[3:]) {
		t.Errorf("Keys is %x", second)
	}
	for _, v := range []struct {
		r    *codec.Reader
		code api.Errno
	}{{codec.Over("x"), api.ErrTrailing}, {codec.Over(""), api.ErrTruncated}, {nil, api.ErrNil}} {
		if v.code == api.ErrTruncated {
			v.r.Num(1)
		}
		var f *fault.Fault
		if errors.As(v.r.End(), &f) {
			f.Err = nil
		}
		if got := fault.Code(v.r.End()); got != v.code {
			t.Errorf("behind another answer was changed: Code is %v, wanted %v", got, v.code)
		}
	}
}

// P16.3: whatever is written, in whatever order, is read as it was; and cut anywhere it is truncated, longer it is trailing.
func TestReadAsItWas(t *testing.T) {
	random := rand.New(rand.NewSource(9))
	for range 300 {
		var w codec.Writer
		var reads []func(*codec.Reader) bool // each reads one thing: is it as it was written?
		for range random.Intn(12) {
			switch random.Intn(3) {
			case 0:
				size, n := random.Intn(9), random.Uint64()
				n >>= 64 - 8*size // as many bytes as are written
				w = w.Num(size, n)
				reads = append(reads, func(r *codec.Reader) bool { return r.Num(size) == n })
			case 1:
				keys := anyKeys(random, random.Intn(4))
				w = w.Keys(keys...)
				reads = append(reads, func(r *codec.Reader) bool { return slices.Equal(r.Keys(len(keys)), keys) })
			default:
				k := anyKeys(random, 1)[0]
				w = w.Raw(joined(k))
				reads = append(reads, func(r *codec.Reader) bool { return r.Key() == k })
			}
		}
		text := w.Text()
		checkAll(t, codec.Over(text), reads, true, 0, 0)
		checkAll(t, codec.Over(text+"x"), reads, true, 1, api.ErrTrailing)
		if text != "" {
			r := codec.Over(text[:random.Intn(len(text))])
			checkAll(t, r, reads, false, len(text), api.ErrTruncated)
		}
	}
}

// checkAll: behind all reads a reader has at most so many bytes left, and that error; all of them answer as it was, if so is wanted.
func checkAll(t *testing.T, r *codec.Reader, reads []func(*codec.Reader) bool, right bool, left int, code api.Errno) {
	t.Helper()
	for i, read := range reads {
		if !read(r) && right {
			t.Errorf("the thing %d is another one than was written", i)
		}
	}
	if got := fault.Code(r.End()); got != code || r.Left() > left {
		t.Errorf("Left is %d, End %v, wanted %d, %v", r.Left(), r.End(), left, code)
	}
}
