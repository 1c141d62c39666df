package draw_test

import (
	"errors"
	"math"
	"math/rand"
	"slices"
	"testing"

	"sapwood/api"
	"sapwood/draw"
	"sapwood/fault"
)

// keys: some, each of its number.
func keys(from, n int) []api.Key {
	var list []api.Key
	for i := range n {
		list = append(list, api.Key{byte(from + i), byte((from + i) >> 8), 31: 7})
	}
	return list
}

// checkError: a call's error is of that number (0: it has none).
func checkError(t *testing.T, what string, err error, code api.Errno) {
	t.Helper()
	if fault.Code(err) != code || (err == nil) != (code == 0) {
		t.Errorf("%s: the error is %v, wanted %v", what, err, code)
	}
}

// checkLeft: these draws are left, in that order, each once. (They are drawn from a clone, by Next.)
func checkLeft(t *testing.T, what string, s *draw.Source, wanted []api.Key) {
	t.Helper()
	if s.Left() != len(wanted) {
		t.Errorf("%s: %d are left, wanted %d", what, s.Left(), len(wanted))
	}
	c := s.Clone()
	for i, k := range wanted {
		got, err := c.Next()
		checkError(t, what, err, 0)
		if got != k || c.Left() != len(wanted)-i-1 {
			t.Errorf("%s: the draw %d is %x, and %d are left behind it, wanted %x, %d", what, i, got, c.Left(), k, len(wanted)-i-1)
		}
	}
	checkNone(t, what, c)
}

// checkNone: none is left.
func checkNone(t *testing.T, what string, s *draw.Source) {
	t.Helper()
	for range 2 {
		k, err := s.Next()
		checkError(t, what+", Next", err, api.ErrDraw)
		if k != (api.Key{}) || s.Left() != 0 {
			t.Errorf("%s: beside ErrDraw there is %x, and %d are left", what, k, s.Left())
		}
	}
}

// checkSome: the next ones are these.
func checkSome(t *testing.T, what string, s *draw.Source, n int, wanted []api.Key) {
	t.Helper()
	got, err := s.Some(n)
	checkError(t, what, err, 0)
	if !slices.Equal(got, wanted) {
		t.Errorf("%s: Some(%d) is %x, wanted %x", what, n, got, wanted)
	}
}

// checkNotSome: so many aren't there, and none is gone.
func checkNotSome(t *testing.T, what string, s *draw.Source, n int, code api.Errno) {
	t.Helper()
	left := s.Left()
	got, err := s.Some(n)
	checkError(t, what, err, code)
	if len(got) != 0 || s.Left() != left {
		t.Errorf("%s: beside the error of Some(%d) there is %x, and %d are left of %d", what, n, got, s.Left(), left)
	}
}

// The example.
func TestExample(t *testing.T) {
	a := api.Key{1, 2, 3}
	s := draw.New(a)
	got, err := s.Next()
	checkError(t, "Next", err, 0)
	if got != a {
		t.Errorf("Next is %x, wanted %x", got, a)
	}
	checkNone(t, "the example", s)
}

// P24.1: New has as many draws as one likes, in order, the same one often, too.
func TestNew(t *testing.T) {
	for _, n := range []int{0, 1, 2, 3, 64, 1000} {
		checkLeft(t, "New", draw.New(keys(1, n)...), keys(1, n))
	}
	twice := []api.Key{{5}, {}, {5}, {}, {}, {5}}
	checkLeft(t, "the same ones", draw.New(twice...), twice)
}

// P24.1: Add puts them behind all others, in order, also where none is left, or some are gone.
func TestAdd(t *testing.T) {
	s := draw.New()
	s.Add()
	checkLeft(t, "of none", s, nil)
	s.Add(keys(1, 2)...)
	checkLeft(t, "of two", s, keys(1, 2))
	s.Add(keys(3, 1)...)
	s.Add(keys(4, 4)...)
	checkLeft(t, "of all", s, keys(1, 7))
	checkSome(t, "behind Add", s, 3, keys(1, 3))
	s.Add(keys(8, 2)...)
	checkLeft(t, "of those that are left", s, keys(4, 6))
	checkSome(t, "all", s, 6, keys(4, 6))
	checkNone(t, "behind all", s)
	s.Add(keys(1, 1)...) // one that was there once may come again
	checkLeft(t, "again", s, keys(1, 1))
}

// P24.2: Some are the next ones, of none there are none, and all may be drawn at once.
func TestSome(t *testing.T) {
	s := draw.New(keys(1, 9)...)
	checkSome(t, "none", s, 0, nil)
	checkLeft(t, "behind none", s, keys(1, 9))
	checkSome(t, "one", s, 1, keys(1, 1))
	checkSome(t, "three", s, 3, keys(2, 3))
	checkLeft(t, "behind four", s, keys(5, 5))
	checkSome(t, "all", s, 5, keys(5, 5))
	checkSome(t, "none of none", s, 0, nil)
	checkNone(t, "behind all", s)
}

// P24.2: where there are fewer, or fewer than none were asked, none is gone.
func TestSomeErrors(t *testing.T) {
	for _, there := range []int{0, 1, 2, 5} {
		s := draw.New(keys(1, there)...)
		for _, more := range []int{1, 2, 100, math.MaxInt32, math.MaxInt - there} {
			checkNotSome(t, "too many", s, there+more, api.ErrDraw)
		}
		for _, n := range []int{-1, -2, -there, -there - 1, math.MinInt32, math.MinInt} {
			if n < 0 {
				checkNotSome(t, "below none", s, n, api.ErrRange)
			}
		}
		checkLeft(t, "behind the errors", s, keys(1, there))
		checkSome(t, "behind the errors", s, there, keys(1, there))
	}
}

// P24.1: what is done with a clone plays no part for the other one, and the other way round.
func TestClone(t *testing.T) {
	s := draw.New(keys(1, 4)...)
	checkSome(t, "ahead", s, 1, keys(1, 1))
	c := s.Clone()
	checkLeft(t, "a clone", c, keys(2, 3))
	checkSome(t, "of the clone", c, 2, keys(2, 2))
	checkLeft(t, "the first one", s, keys(2, 3))
	c.Add(keys(50, 1)...)
	s.Add(keys(60, 2)...)
	checkLeft(t, "the clone", c, append(keys(4, 1), keys(50, 1)...))
	checkLeft(t, "the first one", s, append(keys(2, 3), keys(60, 2)...))
	checkSome(t, "all of the first one", s, 5, append(keys(2, 3), keys(60, 2)...))
	checkLeft(t, "the clone still", c, append(keys(4, 1), keys(50, 1)...))
	checkNone(t, "a clone of none", draw.New().Clone())
}

// P24.2: of nil.
func TestNil(t *testing.T) {
	var s *draw.Source
	if s.Left() != 0 || s.Clone() != nil {
		t.Errorf("of nil there are %d, and a clone %v", s.Left(), s.Clone())
	}
	s.Add()
	s.Add(api.Key{1})
	k, err := s.Next()
	checkError(t, "Next of nil", err, api.ErrNil)
	if k != (api.Key{}) {
		t.Errorf("Next of nil is %x", k)
	}
	for _, n := range []int{math.MinInt, -1, 0, 1, 2, math.MaxInt} {
		checkNotSome(t, "Some of nil", s, n, api.ErrNil)
	}
}

// P24.3: whatever is done, draws come in the order in which they were put, each once.
func TestAny(t *testing.T) {
	random := rand.New(rand.NewSource(24))
	for range 300 {
		n := random.Intn(5)
		s, left := draw.New(keys(0, n)...), keys(0, n)
		put := n
		for range 40 {
			switch random.Intn(5) {
			case 0:
				more := keys(put, random.Intn(6))
				s.Add(more...)
				put, left = put+len(more), append(left, more...)
			case 1:
				k, err := s.Next()
				if len(left) == 0 {
					checkError(t, "Next", err, api.ErrDraw)
					break
				}
				checkError(t, "Next", err, 0)
				if k != left[0] {
					t.Fatalf("Next is %x, wanted %x", k, left[0])
				}
				left = left[1:]
			case 2:
				n := random.Intn(8) - 1
				switch {
				case n < 0:
					checkNotSome(t, "Some", s, n, api.ErrRange)
				case n > len(left):
					checkNotSome(t, "Some", s, n, api.ErrDraw)
				default:
					checkSome(t, "Some", s, n, left[:n])
					left = left[n:]
				}
			case 3:
				s = s.Clone()
			default:
				checkLeft(t, "any", s, left)
			}
		}
	}
}

// What is handed in is neither changed, spare room included, nor kept.
func TestHandedIn(t *testing.T) {
	for _, n := range []int{0, 1, 3} {
		handed := keys(1, n+2)
		s := draw.New(handed[:n]...)
		more := keys(20, n+2)
		s.Add(more[:n]...)
		s.Add(api.Key{9})
		wanted := append(append(keys(1, n), keys(20, n)...), api.Key{9})
		checkSome(t, "of what was handed in", s.Clone(), 2*n+1, wanted)
		if !slices.Equal(handed, keys(1, n+2)) || !slices.Equal(more, keys(20, n+2)) {
			t.Errorf("what was handed in is %x and %x now", handed, more)
		}
		clear(handed)
		clear(more)
		checkLeft(t, "behind a change of what was handed in", s, wanted)
	}
	handed := keys(1, 3)
	s := draw.New(handed...)
	checkSome(t, "all", s, 3, handed)
	if !slices.Equal(handed, keys(1, 3)) {
		t.Errorf("what was handed in is %x when it is drawn", handed)
	}
}

// An answer is new memory: neither the source nor another answer can be changed by it.
func TestAnswersAreNew(t *testing.T) {
	s := draw.New(keys(1, 9)...)
	first, _ := s.Some(3)
	second, _ := s.Some(2)
	_ = append(first, api.Key{77}) // its spare room, too
	_ = append(second, api.Key{78})
	clear(first)
	if !slices.Equal(second, keys(4, 2)) {
		t.Errorf("another answer is %x now", second)
	}
	clear(second)
	checkLeft(t, "behind a change of answers", s, keys(6, 4))
	third, _ := s.Some(2)
	s.Add(keys(30, 20)...)
	if _, err := s.Some(10); err != nil || !slices.Equal(third, keys(6, 2)) {
		t.Errorf("%v: an answer is %x behind other calls", err, third)
	}
}

// An error may be changed, and others stay as they are.
func TestErrorsAreNew(t *testing.T) {
	var none *draw.Source
	for _, call := range []func() error{
		func() error { _, err := none.Next(); return err },
		func() error { _, err := none.Some(1); return err },
		func() error { _, err := draw.New().Next(); return err },
		func() error { _, err := draw.New().Some(1); return err },
		func() error { _, err := draw.New().Some(-1); return err },
	} {
		code := fault.Code(call())
		err := call()
		for f := (*fault.Fault)(nil); errors.As(err, &f); {
			err, f.Err = f.Err, nil
		}
		if got := fault.Code(call()); got != code || code == 0 {
			t.Errorf("behind another error was changed: Code is %v, wanted %v", got, code)
		}
	}
}
