package fault_test

import (
	"errors"
	"io"
	"slices"
	"strconv"
	"strings"
	"testing"

	"sapwood/api"
	"sapwood/fault"
)

// words: the document's words of the numbers from 1 on.
const words = "truncated trailing version size leaf path stage mac zero unknown used echo state kind name range form many none nil draw long"

// numbers: all numbers that the document names, and some that it doesn't.
func numbers() map[api.Errno]string {
	m := map[api.Errno]string{-1: "other", 0: "other", 23: "other", 1 << 40: "other"}
	for i, word := range strings.Fields(words) {
		m[api.Errno(i+1)] = word
	}
	return m
}

// other is an error of another kind, which may have one below it.
type other struct {
	text string
	err  error
}

func (o other) Error() string { return o.text }
func (o other) Unwrap() error { return o.err }

// loose is an error that can't be held against another one of its kind.
type loose struct{ parts []string }

func (l loose) Error() string { return strings.Join(l.parts, " ") }

// wrapped: an error behind notes, the last one of which is put ahead first.
func wrapped(err error, notes ...string) error {
	for _, note := range slices.Backward(notes) {
		err = fault.Wrap(note, err)
	}
	return err
}

// check: an error has that text, that number and those notes.
func check(t *testing.T, err error, text string, code api.Errno, notes ...string) {
	t.Helper()
	if got := err.Error(); got != text {
		t.Errorf("Error is %.60q, wanted %.60q", got, text)
	}
	if got := fault.Code(err); got != code {
		t.Errorf("%.60q: Code is %d, wanted %d", text, got, code)
	}
	if got := fault.Notes(err); !slices.Equal(got, notes) {
		t.Errorf("%.60q: Notes is %.60q, wanted %.60q", text, got, notes)
	}
}

// The example.
func TestExample(t *testing.T) {
	err := fault.Wrap("setup", api.ErrMAC)
	check(t, err, "setup: mac", api.ErrMAC, "setup")
}

// P15.1: Wrap of nil is nil itself, whatever the note.
func TestWrapOfNil(t *testing.T) {
	for _, note := range []string{"", "setup", ": ", "\x00"} {
		if err := fault.Wrap(note, nil); err != nil {
			t.Errorf("Wrap of %q and nil is %#v", note, err)
		}
		if err := fault.Wrap("ahead", fault.Wrap(note, nil)); err != nil {
			t.Errorf("Wrap of Wrap of %q and nil is %#v", note, err)
		}
	}
}

// P15.1: Wrap is a *Fault of just that note and that error.
func TestWrap(t *testing.T) {
	var none *fault.Fault
	for _, err := range []error{api.ErrMAC, api.Errno(0), io.EOF, none, &fault.Fault{}, fault.Wrap("a", api.ErrNil), other{"b", nil}} {
		for _, note := range []string{"", "setup", ": ", "ä\xff\x00\n"} {
			f, ok := fault.Wrap(note, err).(*fault.Fault)
			if !ok || f == nil {
				t.Fatalf("Wrap of %q and %v is no *Fault", note, err)
			}
			if f.Note != note || f.Err != err || f.Unwrap() != err {
				t.Errorf("Wrap of %q and %v has %q, %v, and Unwrap %v", note, err, f.Note, f.Err, f.Unwrap())
			}
			if wanted := note + ": " + err.Error(); f.Error() != wanted {
				t.Errorf("Error is %q, wanted %q", f.Error(), wanted)
			}
		}
	}
}

// P15.1: of a nil *Fault, and of one without an error, Error is the note alone, and Unwrap is nil.
func TestNothingBelow(t *testing.T) {
	var none *fault.Fault
	if none.Error() != "" || none.Unwrap() != nil {
		t.Errorf("a nil one has %q and %v", none.Error(), none.Unwrap())
	}
	check(t, none, "", 0)
	for _, note := range []string{"", "setup", "setup: "} {
		f := &fault.Fault{Note: note}
		if f.Unwrap() != nil {
			t.Errorf("%q: Unwrap is %v", note, f.Unwrap())
		}
		check(t, f, note, 0, note)
		check(t, fault.Wrap("ahead", f), "ahead: "+note, 0, "ahead", note)
	}
}

// P15.1, P15.2: a nil *Fault that stands below another one is an error without a text, a number and notes.
func TestNilBelow(t *testing.T) {
	var none *fault.Fault
	check(t, fault.Wrap("a", none), "a: ", 0, "a")
	check(t, wrapped(none, "a", "b"), "a: b: ", 0, "a", "b")
	if fault.Is(fault.Wrap("a", none), 0) || fault.Is(none, 0) || fault.Is(none, api.ErrNil) {
		t.Error("of a nil *Fault there is a number")
	}
}

// P15.1: the notes stand ahead of the text, the last one first, each with a colon and a blank, whatever is in them.
func TestText(t *testing.T) {
	check(t, wrapped(api.ErrZero, "a", "b", "c"), "a: b: c: zero", api.ErrZero, "a", "b", "c")
	check(t, wrapped(api.ErrZero, "", ""), ": : zero", api.ErrZero, "", "")
	check(t, wrapped(api.ErrZero, "a: b", "\n", "\xff"), "a: b: \n: \xff: zero", api.ErrZero, "a: b", "\n", "\xff")
	check(t, wrapped(api.Errno(99), "a"), "a: other", 99, "a")
}

// P15.2: Code and Is of each number, as it is and behind notes.
func TestNumbers(t *testing.T) {
	for e, word := range numbers() {
		check(t, e, word, e)
		check(t, wrapped(e, "a", "b"), "a: b: "+word, e, "a", "b")
		for other := range numbers() {
			for _, err := range []error{e, fault.Wrap("a", e), wrapped(e, "a", "b")} {
				if got := fault.Is(err, other); got != (e == other) {
					t.Errorf("Is of %v and %d is %v", err, other, got)
				}
				if got := errors.Is(err, other); got != (e == other) {
					t.Errorf("errors.Is of %v and %d is %v", err, other, got)
				}
			}
		}
	}
}

// P15.2: of nil, and of what wraps no number, Code is 0, and Is false, also of 0; there are no notes of nil.
func TestNoNumber(t *testing.T) {
	if code, notes := fault.Code(nil), fault.Notes(nil); code != 0 || len(notes) != 0 {
		t.Errorf("of nil: Code is %d, Notes %q", code, notes)
	}
	check(t, io.EOF, "EOF", 0)
	check(t, fault.Wrap("a", io.EOF), "a: EOF", 0, "a")
	check(t, fault.Wrap("a", other{"mac", nil}), "a: mac", 0, "a")
	check(t, fault.Wrap("a", loose{[]string{"b", "c"}}), "a: b c", 0, "a")
	for e := range numbers() {
		for _, err := range []error{nil, io.EOF, fault.Wrap("a", io.EOF), other{"mac", nil}, loose{}, fault.Wrap("a", loose{}), &fault.Fault{Note: "mac"}} {
			if fault.Is(err, e) {
				t.Errorf("Is of %v and %d", err, e)
			}
		}
	}
}

// P15.2: errors of other kinds that stand between, and joined ones, are seen through, as errors.As does.
func TestThroughOthers(t *testing.T) {
	check(t, other{"x", api.ErrPath}, "x", api.ErrPath)
	check(t, other{"x", wrapped(api.ErrPath, "a", "b")}, "x", api.ErrPath, "a", "b")
	check(t, fault.Wrap("a", other{"x", fault.Wrap("b", other{"y", fault.Wrap("c", api.ErrPath)})}), "a: x", api.ErrPath, "a", "b", "c")
	joined := errors.Join(io.EOF, other{"x", nil}, wrapped(api.ErrUsed, "a", "b"))
	check(t, joined, "EOF\nx\na: b: used", api.ErrUsed, "a", "b")
	check(t, fault.Wrap("c", joined), "c: EOF\nx\na: b: used", api.ErrUsed, "c", "a", "b")
	for _, err := range []error{joined, fault.Wrap("c", joined), fault.Wrap("c", other{"x", fault.Wrap("a", api.ErrUsed)})} {
		if !fault.Is(err, api.ErrUsed) || fault.Is(err, api.ErrEcho) {
			t.Errorf("%v: Is doesn't see through", err)
		}
	}
}

// P15.2: errors.As finds the *Fault that is the outermost.
func TestOutermost(t *testing.T) {
	err := wrapped(api.ErrKind, "a", "b")
	var f *fault.Fault
	if !errors.As(other{"x", err}, &f) || error(f) != err || f.Note != "a" {
		t.Errorf("errors.As finds %v", f)
	}
}

// P15.2: First is the first one that isn't nil, itself.
func TestFirst(t *testing.T) {
	a, b := fault.Wrap("a", api.ErrMany), fault.Wrap("b", api.ErrMany)
	for _, v := range []struct {
		errs   []error
		wanted error
	}{
		{[]error{a}, a},
		{[]error{b, a}, b},
		{[]error{nil, nil, a, nil, b}, a},
		{[]error{nil, api.ErrForm, a}, api.ErrForm},
		{[]error{nil, api.Errno(0), a}, api.Errno(0)},
		{[]error{nil, io.EOF}, io.EOF},
	} {
		kept := slices.Clone(v.errs)
		if got := fault.First(v.errs...); got == nil || got != v.wanted {
			t.Errorf("First of %v is %v", v.errs, got)
		}
		if !slices.Equal(v.errs, kept) {
			t.Errorf("First changed what it was handed: %v", v.errs)
		}
	}
	for n := range 4 {
		if got := fault.First(make([]error, n)...); got != nil {
			t.Errorf("First of nil, %d times, is %v", n, got)
		}
	}
}

// P15.3: however often an error is wrapped, its number is the same, and its notes are all there.
func TestOften(t *testing.T) {
	for e, word := range numbers() {
		err, text, notes := error(e), word, []string(nil)
		for i := range 40 {
			note := strconv.Itoa(i)
			err, text, notes = fault.Wrap(note, err), note+": "+text, append([]string{note}, notes...)
			check(t, err, text, e, notes...)
			if !fault.Is(err, e) {
				t.Errorf("%v: not Is of %d", err, e)
			}
		}
	}
}

// P15.3, P1: also of very many notes each call ends.
func TestVeryOften(t *testing.T) {
	const many = 3000000
	err := error(api.ErrDraw)
	for range many {
		err = fault.Wrap("n", err)
	}
	if !fault.Is(err, api.ErrDraw) || fault.Is(err, api.ErrLong) || fault.Code(err) != api.ErrDraw {
		t.Errorf("behind %d notes Code is %d", many, fault.Code(err))
	}
	if n := len(fault.Notes(err)); n != many {
		t.Errorf("Notes has %d, wanted %d", n, many)
	}
	if text := err.Error(); text != strings.Repeat("n: ", many)+"draw" {
		t.Errorf("Error has %d bytes", len(text))
	}
}

// Rules: an error that is wrapped stays as it was, and an answer is nobody else's memory.
func TestAnswersAreNew(t *testing.T) {
	below := wrapped(api.ErrNone, "b", "c")
	first, second := fault.Wrap("a", below), fault.Wrap("a", below)
	first.(*fault.Fault).Note = "x"
	check(t, second, "a: b: c: none", api.ErrNone, "a", "b", "c")
	check(t, below, "b: c: none", api.ErrNone, "b", "c")
	notes := fault.Notes(second)
	for i := range notes {
		notes[i] = "y"
	}
	check(t, second, "a: b: c: none", api.ErrNone, "a", "b", "c")
}
