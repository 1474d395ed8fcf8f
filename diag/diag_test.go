package diag_test

import (
	"errors"
	"fmt"
	"math"
	"slices"
	"strings"
	"sync"
	"testing"

	"governor/api"
	"governor/diag"
)

// broken is a stranger's error all of whose methods panic.
type broken struct{}

func (broken) Error() string { panic("Error") }
func (broken) Unwrap() error { panic("Unwrap") }
func (broken) As(any) bool   { panic("As") }
func (broken) Is(error) bool { panic("Is") }

// listed is a stranger's error that == can't compare.
type listed []int

func (listed) Error() string { return "listed" }

// posing is a stranger's error that shows itself to errors.As as another one.
type posing struct{ as *diag.Error }

func (p posing) Error() string { return "posing" }

func (p posing) As(target any) bool {
	if t, ok := target.(**diag.Error); ok {
		*t = p.as
		return true
	}
	return false
}

// nilError is a nil *Error, as an error that is not nil.
func nilError() error {
	var e *diag.Error
	return e
}

// longChain wraps an error of code 0 n times, by codes from 1 on.
func longChain(n int) error {
	err := diag.New(0, 0)
	for i := range n {
		err = diag.Wrap(err, i+1, -i)
	}
	return err
}

func fields(t *testing.T, err error) diag.Error {
	t.Helper()
	var e *diag.Error
	if !errors.As(err, &e) || e == nil {
		t.Fatalf("%v is no *Error", err)
	}
	return *e
}

func TestNewTellsWhatItWasGiven(t *testing.T) {
	for _, x := range []api.Wrong{{}, {Code: 3, At: 7}, {Code: -4, At: -1}, {Code: math.MaxInt, At: math.MinInt}} {
		if e := fields(t, diag.New(x.Code, x.At)); e != (diag.Error{Code: x.Code, At: x.At}) {
			t.Errorf("P1.1: New(%d, %d) is %+v", x.Code, x.At, e)
		}
	}
	if diag.New(1, 2) == diag.New(1, 2) {
		t.Error("R4: two errors are one")
	}
}

func TestWrapHoldsWhatItWraps(t *testing.T) {
	for _, err := range []error{diag.New(3, 7), errors.New("x"), diag.Of(2), nilError(), diag.Wrap(diag.New(1, 1), 2, 2), broken{}} {
		w := diag.Wrap(err, 5, 9)
		if e := fields(t, w); e != (diag.Error{Code: 5, At: 9, Err: err}) || errors.Unwrap(w) != err || e.Unwrap() != err {
			t.Errorf("P1.1: Wrap of %T", err)
		}
	}
	if err := diag.Wrap(nil, 5, 9); err != nil {
		t.Errorf("P1.1: Wrap of nil is %v", err)
	}
	if errors.Unwrap(diag.New(3, 7)) != nil {
		t.Error("P1.1: New wraps something")
	}
}

func TestErrorText(t *testing.T) {
	for _, x := range []struct {
		err  error
		text string
	}{
		{diag.New(0, 0), "code 0 at 0"},
		{diag.New(3, 7), "code 3 at 7"},
		{diag.New(-12, -345), "code -12 at -345"},
		{diag.New(math.MinInt64, math.MaxInt64), "code -9223372036854775808 at 9223372036854775807"},
		{diag.Of(4), "code 4 at -1"},
		{diag.Wrap(errors.New("x: y"), 1, 2), "code 1 at 2: x: y"},
		{diag.Wrap(errors.New(""), 1, 2), "code 1 at 2: "},
		{diag.Wrap(diag.Wrap(diag.New(3, 7), 5, 9), 6, 10), "code 6 at 10: code 5 at 9: code 3 at 7"},
		{diag.Wrap(fmt.Errorf("between: %w", diag.New(3, 7)), 5, 9), "code 5 at 9: between: code 3 at 7"},
		{diag.Wrap(posing{&diag.Error{Code: 8, At: 8}}, 5, 9), "code 5 at 9: posing"},
		{diag.Wrap(listed{1}, 5, 9), "code 5 at 9: listed"},
		{diag.Wrap(nilError(), 5, 9), "code 5 at 9: fine"},
		{nilError(), "fine"},
	} {
		if got := x.err.Error(); got != x.text {
			t.Errorf("P1.1: %q, not %q", got, x.text)
		}
	}
}

func TestErrorTextOfLongChain(t *testing.T) {
	const n = 1 << 16
	text := longChain(n).Error()
	if strings.Count(text, "code ") != n+1 || !strings.HasPrefix(text, "code 65536 at -65535: code 65535 at -65534: ") || !strings.HasSuffix(text, ": code 1 at 0: code 0 at 0") {
		t.Errorf("P1.1: a chain of %d bytes", len(text))
	}
}

func TestOfStandsForItsCode(t *testing.T) {
	inner := diag.New(3, 7)
	errs := []struct {
		err   error
		codes []int
	}{
		{inner, []int{3}},
		{diag.New(3, -1), []int{3}},
		{diag.New(3, math.MaxInt), []int{3}},
		{diag.New(0, 0), []int{0}},
		{diag.New(-2, 4), []int{-2}},
		{diag.Of(3), []int{3}},
		{diag.Wrap(inner, 5, 9), []int{3, 5}},
		{diag.Wrap(errors.New("x"), 5, 9), []int{5}},
		{diag.Wrap(diag.Wrap(inner, 5, 9), 6, -1), []int{3, 5, 6}},
		{fmt.Errorf("more: %w", diag.Wrap(inner, 5, 9)), []int{3, 5}},
		{errors.Join(errors.New("x"), diag.New(2, 0), diag.New(4, 0)), []int{2, 4}},
		{errors.New("code 3 at 7"), nil},
		{nilError(), nil},
		{nil, nil},
	}
	for i, x := range errs {
		for code := -3; code < 9; code++ {
			if errors.Is(x.err, diag.Of(code)) != slices.Contains(x.codes, code) {
				t.Errorf("P1.1: errors.Is of the %d-th, code %d", i, code)
			}
		}
	}
}

func TestIsAsksForAnErrorOfNoPlace(t *testing.T) {
	e := &diag.Error{Code: 3, At: 7, Err: diag.New(4, 4)}
	for i, x := range []struct {
		target error
		is     bool
	}{
		{diag.Of(3), true},
		{diag.New(3, -1), true},
		{&diag.Error{Code: 3, At: -1}, true},
		{diag.Of(4), false},
		{diag.Of(-3), false},
		{diag.New(3, 7), false},
		{diag.New(3, 0), false},
		{diag.New(3, -2), false},
		{e, false},
		{diag.Wrap(diag.Of(3), 3, -1), false},
		{diag.Wrap(errors.New("x"), 3, -1), false},
		{diag.Wrap(diag.Of(3), 5, 9), false},
		{fmt.Errorf("more: %w", diag.Of(3)), false},
		{errors.Join(diag.Of(3)), false},
		{posing{&diag.Error{Code: 3, At: -1}}, false},
		{errors.New("code 3 at -1"), false},
		{listed{3}, false},
		{broken{}, false},
		{nilError(), false},
		{nil, false},
	} {
		if e.Is(x.target) != x.is {
			t.Errorf("P1.1: Is of the %d-th target", i)
		}
	}
}

func TestFindAndChain(t *testing.T) {
	inner := diag.New(3, 7)
	outer := diag.Wrap(fmt.Errorf("between: %w", inner), 5, 9)
	for i, x := range []struct {
		err   error
		chain []api.Wrong
	}{
		{nil, nil},
		{errors.New("code 3 at 7"), nil},
		{nilError(), nil},
		{fmt.Errorf("more: %w", nilError()), nil},
		{posing{}, nil},
		{listed{1}, nil},
		{inner, []api.Wrong{{Code: 3, At: 7}}},
		{diag.New(0, 0), []api.Wrong{{}}},
		{diag.Of(6), []api.Wrong{{Code: 6, At: -1}}},
		{diag.Wrap(errors.New("x"), 2, 4), []api.Wrong{{Code: 2, At: 4}}},
		{diag.Wrap(nilError(), 2, 4), []api.Wrong{{Code: 2, At: 4}}},
		{outer, []api.Wrong{{Code: 5, At: 9}, {Code: 3, At: 7}}},
		{fmt.Errorf("more: %w", outer), []api.Wrong{{Code: 5, At: 9}, {Code: 3, At: 7}}},
		{errors.Join(errors.New("x"), outer, diag.New(8, 8)), []api.Wrong{{Code: 5, At: 9}, {Code: 3, At: 7}}},
		{diag.Wrap(errors.Join(diag.New(1, 1), diag.New(2, 2)), 5, 9), []api.Wrong{{Code: 5, At: 9}, {Code: 1, At: 1}}},
		{diag.Wrap(posing{&diag.Error{Code: 8, At: 2}}, 5, 9), []api.Wrong{{Code: 5, At: 9}, {Code: 8, At: 2}}},
	} {
		if got := diag.Chain(x.err); !slices.Equal(got, x.chain) {
			t.Errorf("P1.2: Chain of the %d-th: %v", i, got)
		}
		var want api.Wrong
		if len(x.chain) > 0 {
			want = x.chain[0]
		}
		code, at, ok := diag.Find(x.err)
		if code != want.Code || at != want.At || ok != (len(x.chain) > 0) {
			t.Errorf("P1.2: Find of the %d-th: %d, %d, %t", i, code, at, ok)
		}
	}
}

func TestChainTellsOneHundredAtMost(t *testing.T) {
	for _, n := range []int{98, 99, 100, 101, 1000, 1 << 16} {
		chain := diag.Chain(longChain(n))
		if len(chain) != min(n+1, 100) {
			t.Errorf("P1.2: %d of %d", len(chain), n+1)
		}
		for i, w := range chain {
			if w.Code != n-i || (w.Code > 0 && w.At != 1-w.Code) {
				t.Errorf("P1.2: the %d-th of %d: %v", i, n+1, w)
			}
		}
	}
}

func TestChainIsNewEachTime(t *testing.T) {
	err := diag.Wrap(diag.New(3, 7), 5, 9)
	a := diag.Chain(err)
	a[0], a[1] = api.Wrong{}, api.Wrong{}
	_ = append(a[:1], api.Wrong{Code: 1})
	if b := diag.Chain(err); !slices.Equal(b, []api.Wrong{{Code: 5, At: 9}, {Code: 3, At: 7}}) {
		t.Errorf("R4: %v", b)
	}
}

func TestNilErrorAnswersZeroValues(t *testing.T) {
	var e *diag.Error
	if e.Error() != "fine" || e.Unwrap() != nil {
		t.Error("R3: Error, Unwrap")
	}
	for _, target := range []error{nil, e, diag.Of(0), diag.New(0, 0), errors.New("fine")} {
		if e.Is(target) {
			t.Errorf("R3: Is of %v", target)
		}
	}
}

func TestStrangersThatPanicAreCaught(t *testing.T) {
	err := diag.Wrap(broken{}, 5, 9)
	if err.Error() != "code 5 at 9: " {
		t.Errorf("R1: %q", err.Error())
	}
	if code, at, ok := diag.Find(broken{}); code != 0 || at != 0 || ok {
		t.Error("R1: Find")
	}
	if code, at, ok := diag.Find(err); code != 5 || at != 9 || !ok {
		t.Error("R1: Find of what wraps one")
	}
	if len(diag.Chain(broken{})) != 0 || !slices.Equal(diag.Chain(err), []api.Wrong{{Code: 5, At: 9}}) {
		t.Error("R1: Chain")
	}
}

func TestCallsFromSeveralGoroutines(t *testing.T) {
	err := longChain(50)
	var group sync.WaitGroup
	for range 8 {
		group.Go(func() {
			for range 50 {
				if len(diag.Chain(err)) != 51 || !errors.Is(err, diag.Of(7)) || len(err.Error()) == 0 {
					t.Error("R5: another answer")
				}
			}
		})
	}
	group.Wait()
}
