package fault_test

import (
	"errors"
	"fmt"
	"math"
	"strings"
	"testing"

	"wharf/api"
	"wharf/fault"
)

// names are the names of the codes from 1 to 12 in order.
var names = []string{
	"short", "align", "checksum", "length", "padding", "flags",
	"form", "count", "depth", "place", "value", "syntax",
}

// someCodes are codes of the table, at its bounds, and outside of it.
var someCodes = []api.Code{
	0, 1, 2, 6, 7, 11, 12, 13, -1, math.MaxInt, math.MinInt,
}

// numbers are some offsets and sums of offsets.
var numbers = []int{0, 1, 2, 7, 65535, -1, -65536, 1<<62 - 1, 1 - 1<<62}

// wrap is an error of another project with one error inside.
type wrap struct{ inside error }

func (w wrap) Error() string { return "wrap" }
func (w wrap) Unwrap() error { return w.inside }

// around has the methods of an api.Fault, but is none.
type around struct{ api.Fault }

// wild is an error whose methods panic.
type wild struct{}

func (wild) Error() string { panic("Error of wild") }
func (wild) Unwrap() error { panic("Unwrap of wild") }

// liar sets a target and says that it did not.
type liar struct{}

func (liar) Error() string { return "liar" }
func (liar) As(target any) bool {
	switch t := target.(type) {
	case *api.Code:
		*t = api.Form
	case *api.Fault:
		*t = api.Fault{Code: api.Form, At: 7}
	}
	return false
}

// deep wraps an error n times, in the ways of this and other projects.
func deep(err error, n int) error {
	for i := range n {
		switch i % 3 {
		case 0:
			err = fault.In("part", err)
		case 1:
			err = fmt.Errorf("more: %w", err)
		default:
			err = wrap{err}
		}
	}
	return err
}

func mustHaveCode(t *testing.T, err error, want api.Code, found bool) {
	t.Helper()
	if c, ok := fault.Code(err); c != want || ok != found {
		t.Errorf("Code: %d, %v; want %d, %v", int(c), ok, int(want), found)
	}
}

func mustBeAt(t *testing.T, err error, want int, found bool) {
	t.Helper()
	if at, ok := fault.At(err); at != want || ok != found {
		t.Errorf("At: %d, %v; want %d, %v", at, ok, want, found)
	}
}

// P2.1

func TestNew(t *testing.T) {
	for _, c := range someCodes {
		for _, at := range numbers {
			err := fault.New(c, at)
			if f, ok := err.(api.Fault); !ok || f != (api.Fault{Code: c, At: at}) {
				t.Errorf("New(%d, %d): %#v", int(c), at, err)
			}
		}
	}
}

func TestInHasATextAndAnUnwrap(t *testing.T) {
	for _, x := range []struct {
		part string
		err  error
		want string
	}{
		{"chunk", fault.New(api.Form, 7), "chunk: error 7"},
		{"chunk", api.Short, "chunk: error 1"},
		{"", api.Syntax, ": error 12"},
		{"a: b\n", errors.New("some text"), "a: b\n: some text"},
		{"Stück 100%s", errors.New(""), "Stück 100%s: "},
		{"\xff", errors.New("%d"), "\xff: %d"},
		{"packet", fault.In("chunk", fault.New(-5, 0)), "packet: chunk: error -5"},
	} {
		err := fault.In(x.part, x.err)
		if err == nil {
			t.Fatalf("In(%q, %v) is nil", x.part, x.err)
		}
		if err.Error() != x.want {
			t.Errorf("In(%q, %v): %q; want %q", x.part, x.err, err.Error(), x.want)
		}
		if got := errors.Unwrap(err); got == nil || got != x.err {
			t.Errorf("In(%q, %v) unwraps to %v", x.part, x.err, got)
		}
	}
}

func TestInOfNil(t *testing.T) {
	for _, part := range []string{"", "chunk"} {
		if err := fault.In(part, nil); err != nil {
			t.Errorf("In(%q, nil): %#v", part, err)
		}
	}
}

func TestInKeepsPointers(t *testing.T) {
	err := &wrap{api.Place}
	if got := errors.Unwrap(fault.In("packet", err)); got != error(err) {
		t.Errorf("Unwrap: %#v", got)
	}
}

// P2.2

func TestCodeAndAt(t *testing.T) {
	for i, x := range []struct {
		err   error
		code  api.Code
		coded bool
		at    int
		ated  bool
	}{
		{api.Form, api.Form, true, 0, false},
		{api.Code(0), 0, true, 0, false},
		{api.Code(-3), -3, true, 0, false},
		{fault.New(api.Form, 7), api.Form, true, 7, true},
		{fault.New(0, 0), 0, true, 0, true},
		{fault.New(api.Value, -9), api.Value, true, -9, true},
		{fault.In("chunk", fault.New(api.Form, 7)), api.Form, true, 7, true},
		{fault.In("chunk", api.Count), api.Count, true, 0, false},
		{wrap{fault.New(99, 5)}, 99, true, 5, true},
		{&wrap{api.Depth}, api.Depth, true, 0, false},
		{fmt.Errorf("x: %w", fault.New(api.Place, 1)), api.Place, true, 1, true},
		{around{api.Fault{Code: api.Flags, At: 4}}, api.Flags, true, 0, false},
		{&api.Fault{Code: api.Flags, At: 4}, api.Flags, true, 0, false},
		{nil, 0, false, 0, false},
		{errors.New("error 7"), 0, false, 0, false},
		{wrap{nil}, 0, false, 0, false},
		{wrap{wrap{errors.New("x")}}, 0, false, 0, false},
		{fault.In("chunk", errors.New("x")), 0, false, 0, false},
		{fmt.Errorf("%v", api.Form), 0, false, 0, false},
	} {
		t.Run(fmt.Sprint(i), func(t *testing.T) {
			mustHaveCode(t, x.err, x.code, x.coded)
			mustBeAt(t, x.err, x.at, x.ated)
		})
	}
}

func TestCodeAndAtLookDeep(t *testing.T) {
	for n := range 20 {
		mustHaveCode(t, deep(fault.New(api.Align, n), n), api.Align, true)
		mustBeAt(t, deep(fault.New(api.Align, n), n), n, true)
		mustHaveCode(t, deep(api.Align, n), api.Align, true)
		mustBeAt(t, deep(api.Align, n), 0, false)
		mustHaveCode(t, deep(errors.New("x"), n), 0, false)
		mustBeAt(t, deep(errors.New("x"), n), 0, false)
	}
}

func TestLongChain(t *testing.T) {
	// A Fault and its Code are two errors of a chain.
	err := deep(fault.New(api.Padding, 44), 998)
	mustHaveCode(t, err, api.Padding, true)
	mustBeAt(t, err, 44, true)
	if f := fault.Shift(err, -4); f != error(api.Fault{Code: api.Padding, At: 40}) {
		t.Errorf("Shift: %#v", f)
	}
	mustHaveCode(t, deep(errors.New("x"), 999), 0, false)
	mustBeAt(t, deep(errors.New("x"), 999), 0, false)
	last := errors.New("x")
	all := last
	for range 999 {
		all = fault.In("p", all)
	}
	if want := strings.Repeat("p: ", 999) + "x"; all.Error() != want {
		t.Errorf("a text of %d bytes; want %d", len(all.Error()), len(want))
	}
}

// P2.3

func TestShift(t *testing.T) {
	for i, x := range []struct {
		err  error
		n    int
		want api.Fault
	}{
		{fault.In("chunk", fault.New(api.Form, 7)), 2, api.Fault{Code: api.Form, At: 9}},
		{fault.New(api.Short, 0), 0, api.Fault{Code: api.Short, At: 0}},
		{fault.New(api.Length, 12), -12, api.Fault{Code: api.Length, At: 0}},
		{fault.New(api.Length, 12), -13, api.Fault{Code: api.Length, At: -1}},
		{fault.New(99, -5), 3, api.Fault{Code: 99, At: -2}},
		{api.Place, 8, api.Fault{Code: api.Place, At: 8}},
		{api.Code(0), 8, api.Fault{Code: 0, At: 8}},
		{wrap{wrap{api.Value}}, -8, api.Fault{Code: api.Value, At: -8}},
		{around{api.Fault{Code: api.Flags, At: 4}}, 1, api.Fault{Code: api.Flags, At: 1}},
		{fault.Shift(fault.New(api.Count, 1), 2), 3, api.Fault{Code: api.Count, At: 6}},
	} {
		err := fault.Shift(x.err, x.n)
		if f, ok := err.(api.Fault); !ok || f != x.want {
			t.Errorf("%d: %#v; want %#v", i, err, x.want)
		}
	}
}

func TestShiftAddsOffsets(t *testing.T) {
	for _, at := range numbers {
		for _, n := range []int{0, 1, -1, 4, 1 << 40, -1 << 40} {
			want := api.Fault{Code: api.Depth, At: at + n}
			if err := fault.Shift(wrap{fault.New(api.Depth, at)}, n); err != error(want) {
				t.Errorf("At %d and %d: %#v", at, n, err)
			}
		}
	}
}

func TestShiftWithoutACode(t *testing.T) {
	for _, err := range []error{nil, errors.New("x"), wrap{nil}, fault.In("chunk", wrap{nil})} {
		for _, n := range []int{0, 1, -1} {
			if got := fault.Shift(err, n); got != nil {
				t.Errorf("Shift(%v, %d): %#v", err, n, got)
			}
		}
	}
}

// P2.4

func TestName(t *testing.T) {
	for i, want := range names {
		if got := fault.Name(api.Code(i + 1)); got != want {
			t.Errorf("Name(%d): %q; want %q", i+1, got, want)
		}
	}
	if fault.Name(api.Short) != "short" || fault.Name(api.Place) != "place" || fault.Name(api.Syntax) != "syntax" {
		t.Error("the codes of api have other names")
	}
}

func TestOtherCodesHaveNoName(t *testing.T) {
	for c := api.Code(-300); c <= 300; c++ {
		if got := fault.Name(c); got != "" && (c < 1 || c > 12) {
			t.Errorf("Name(%d): %q", int(c), got)
		}
	}
	for _, c := range []api.Code{math.MaxInt, math.MinInt, 1 << 32, 1<<32 + 1, 1<<16 + 1, 1<<8 + 1, 1<<63 - 255} {
		if got := fault.Name(c); got != "" {
			t.Errorf("Name(%d): %q", int(c), got)
		}
	}
}

// P2.5

func TestIsFindsCodesInWhatWasWrapped(t *testing.T) {
	for i, err := range []error{
		api.Form, api.Code(0), fault.New(api.Form, 7), fault.New(99, 0), deep(fault.New(api.Place, 3), 7),
		wrap{api.Align}, errors.New("x"), wrap{nil}, fault.Shift(api.Value, 4),
	} {
		for _, c := range append([]api.Code{99}, someCodes...) {
			want := errors.Is(err, c)
			if got := errors.Is(fault.In("chunk", err), c); got != want {
				t.Errorf("%d: Is(%d) of the wrapped error: %v; want %v", i, int(c), got, want)
			}
			if got := errors.Is(deep(err, 5), c); got != want {
				t.Errorf("%d: Is(%d) of the deeply wrapped error: %v; want %v", i, int(c), got, want)
			}
			if code, ok := fault.Code(err); (ok && code == c) != want {
				t.Errorf("%d: Is(%d): %v, but the code is %d, %v", i, int(c), want, int(code), ok)
			}
		}
	}
}

// P1

func TestErrorsThatPanic(t *testing.T) {
	var none *api.Fault // it is an error whose Unwrap has nothing to read
	for i, err := range []error{wild{}, none, wrap{wild{}}, fault.In("chunk", wild{}), fault.In("chunk", none)} {
		t.Run(fmt.Sprint(i), func(t *testing.T) {
			mustHaveCode(t, err, 0, false)
			mustBeAt(t, err, 0, false)
			if got := fault.Shift(err, 1); got != nil {
				t.Errorf("Shift: %#v", got)
			}
		})
	}
}

func TestWhatIsNotFoundIsZero(t *testing.T) {
	mustHaveCode(t, liar{}, 0, false)
	mustBeAt(t, liar{}, 0, false)
	mustHaveCode(t, fault.In("chunk", liar{}), 0, false)
}
