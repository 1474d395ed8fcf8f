package word_test

import (
	"math"
	"math/big"
	"sync"
	"testing"

	"governor/api"
	"governor/word"
)

// edges are numbers next to where 16, 17, 32 and 64 bits go round.
var edges = []int{
	0, 1, -1, 2, -2, 3, -3, 7, -7, 255, 256, 32766, 32767, 32768, 32769, -32767, -32768, -32769,
	65535, 65536, 65537, -65535, -65536, -65537, 98303, 98304, 12345678, -12345678,
	math.MaxInt32, math.MinInt32, math.MaxInt32 + 1, math.MinInt32 - 1,
	math.MaxInt64, math.MaxInt64 - 1, math.MinInt64, math.MinInt64 + 1,
}

// none are numbers that tell no operator.
var none = []int{math.MinInt64, -65535, -1, 0, 15, 16, 256 + api.Add, 65536 + api.Eq, math.MaxInt64}

// fits is Fit without a bound of its own: n less the multiple of 2^16 that leaves a 16-bit number.
func fits(n *big.Int) int {
	rest := new(big.Int).Mod(n, big.NewInt(65536)).Int64()
	if rest > api.Highest {
		rest -= 65536
	}
	return int(rest)
}

func number(n int) *big.Int { return big.NewInt(int64(n)) }

func oneIf(truth bool) int {
	if truth {
		return 1
	}
	return 0
}

// told is what the promise tells of an operator, reckoned without any bound.
func told(op, a, b int) (int, bool) {
	x, y, z := number(a), number(b), new(big.Int)
	if (op == api.Div || op == api.Mod) && b == 0 {
		return 0, false
	}
	switch op {
	case api.Add:
		return fits(z.Add(x, y)), true
	case api.Sub:
		return fits(z.Sub(x, y)), true
	case api.Mul:
		return fits(z.Mul(x, y)), true
	case api.Div:
		return fits(z.Quo(x, y)), true
	case api.Mod:
		return fits(z.Rem(x, y)), true
	case api.Eq:
		return oneIf(x.Cmp(y) == 0), true
	case api.Ne:
		return oneIf(x.Cmp(y) != 0), true
	case api.Lt:
		return oneIf(x.Cmp(y) < 0), true
	case api.Le:
		return oneIf(x.Cmp(y) <= 0), true
	case api.Gt:
		return oneIf(x.Cmp(y) > 0), true
	case api.Ge:
		return oneIf(x.Cmp(y) >= 0), true
	case api.And:
		return oneIf(x.Sign() != 0 && y.Sign() != 0), true
	case api.Or:
		return oneIf(x.Sign() != 0 || y.Sign() != 0), true
	case api.Xor:
		return oneIf((x.Sign() != 0) != (y.Sign() != 0)), true
	}
	return 0, false
}

func TestFit(t *testing.T) {
	for _, x := range []struct{ n, want int }{
		{0, 0}, {1, 1}, {-1, -1}, {32767, 32767}, {-32768, -32768}, {32768, -32768}, {-32769, 32767},
		{65535, -1}, {65536, 0}, {65537, 1}, {-65535, 1}, {-65536, 0}, {-65537, -1}, {98303, 32767}, {98304, -32768},
		{math.MaxInt32, -1}, {math.MinInt32, 0}, {1<<32 + 5, 5}, {math.MaxInt64, -1}, {math.MinInt64, 0},
	} {
		if got := word.Fit(x.n); got != x.want {
			t.Errorf("P2.1: Fit(%d) is %d, not %d", x.n, got, x.want)
		}
	}
	for n := -200000; n <= 200000; n++ {
		if got := word.Fit(n); got < api.Lowest || got > api.Highest || (n-got)%65536 != 0 {
			t.Fatalf("P2.1: Fit(%d) is %d", n, got)
		}
	}
}

func TestNeg(t *testing.T) {
	for _, x := range []struct{ a, want int }{
		{0, 0}, {1, -1}, {-1, 1}, {32767, -32767}, {-32767, 32767}, {-32768, -32768}, {32768, -32768},
		{32769, 32767}, {65536, 0}, {65535, 1}, {math.MaxInt64, 1}, {math.MinInt64, 0},
	} {
		if got := word.Neg(x.a); got != x.want {
			t.Errorf("P2.1: Neg(%d) is %d, not %d", x.a, got, x.want)
		}
	}
	for _, a := range edges {
		if want := fits(new(big.Int).Neg(number(a))); word.Neg(a) != want {
			t.Errorf("P2.1: Neg(%d) is %d, not %d", a, word.Neg(a), want)
		}
	}
}

func TestNot(t *testing.T) {
	for _, a := range edges {
		if got := word.Not(a); got != oneIf(a == 0) {
			t.Errorf("P2.1: Not(%d) is %d", a, got)
		}
	}
}

func TestDoByHand(t *testing.T) {
	for _, x := range []struct{ op, a, b, want int }{
		{api.Add, 32767, 1, -32768}, {api.Add, -32768, -1, 32767}, {api.Add, 2, 3, 5}, {api.Add, math.MaxInt64, 1, 0},
		{api.Sub, -32768, 1, 32767}, {api.Sub, 3, 5, -2}, {api.Sub, 0, -32768, -32768}, {api.Sub, 0, math.MinInt64, 0},
		{api.Mul, 256, 256, 0}, {api.Mul, 181, 182, -32594}, {api.Mul, -32768, -1, -32768}, {api.Mul, -7, 6, -42}, {api.Mul, math.MaxInt64, math.MaxInt64, 1},
		{api.Div, 7, 2, 3}, {api.Div, -7, 2, -3}, {api.Div, 7, -2, -3}, {api.Div, -7, -2, 3}, {api.Div, 0, 5, 0}, {api.Div, 1, 2, 0}, {api.Div, -1, 2, 0},
		{api.Div, -32768, -1, -32768}, {api.Div, math.MinInt64, -1, 0}, {api.Div, 65536, 2, -32768}, {api.Div, 131072, 65536, 2},
		{api.Mod, 7, 2, 1}, {api.Mod, -7, 2, -1}, {api.Mod, 7, -2, 1}, {api.Mod, -7, -2, -1}, {api.Mod, 6, 3, 0}, {api.Mod, -6, 3, 0},
		{api.Mod, -32768, -1, 0}, {api.Mod, math.MinInt64, -1, 0}, {api.Mod, 65536, 65537, 0}, {api.Mod, 65537, 7, 3}, {api.Mod, 40000, 50000, -25536},
		{api.Eq, 5, 5, 1}, {api.Eq, 5, 6, 0}, {api.Eq, 0, 65536, 0}, {api.Ne, 5, 5, 0}, {api.Ne, 5, 6, 1}, {api.Ne, -1, 65535, 1},
		{api.Lt, -1, 0, 1}, {api.Lt, 0, 0, 0}, {api.Lt, 1, 0, 0}, {api.Lt, 0, 65536, 1}, {api.Lt, math.MinInt64, math.MaxInt64, 1},
		{api.Le, -1, 0, 1}, {api.Le, 0, 0, 1}, {api.Le, 1, 0, 0}, {api.Le, 32768, -32768, 0},
		{api.Gt, -1, 0, 0}, {api.Gt, 0, 0, 0}, {api.Gt, 1, 0, 1}, {api.Gt, math.MaxInt64, math.MinInt64, 1},
		{api.Ge, -1, 0, 0}, {api.Ge, 0, 0, 1}, {api.Ge, 1, 0, 1},
		{api.And, 0, 0, 0}, {api.And, 1, 0, 0}, {api.And, 0, 1, 0}, {api.And, 1, 1, 1}, {api.And, 1, 2, 1}, {api.And, -1, 65536, 1},
		{api.Or, 0, 0, 0}, {api.Or, 4, 0, 1}, {api.Or, 0, -4, 1}, {api.Or, 1, 2, 1}, {api.Or, 65536, 0, 1},
		{api.Xor, 0, 0, 0}, {api.Xor, 4, 0, 1}, {api.Xor, 0, -4, 1}, {api.Xor, 1, 2, 0}, {api.Xor, 5, 5, 0}, {api.Xor, 0, 65536, 1},
	} {
		if got, ok := word.Do(x.op, x.a, x.b); got != x.want || !ok {
			t.Errorf("P2.1: Do(%d, %d, %d) is %d, %v, not %d", x.op, x.a, x.b, got, ok, x.want)
		}
	}
}

func TestDoRefuses(t *testing.T) {
	for _, a := range edges {
		for _, op := range []int{api.Div, api.Mod} {
			if got, ok := word.Do(op, a, 0); got != 0 || ok {
				t.Errorf("P2.1: Do(%d, %d, 0) is %d, %v", op, a, got, ok)
			}
		}
		for _, op := range none {
			if got, ok := word.Do(op, a, 1); got != 0 || ok {
				t.Errorf("P2.1: Do(%d, %d, 1) is %d, %v", op, a, got, ok)
			}
		}
	}
}

func TestDoAtEdges(t *testing.T) {
	for op := -1; op <= 16; op++ {
		for _, a := range edges {
			for _, b := range edges {
				got, ok := word.Do(op, a, b)
				if want, right := told(op, a, b); got != want || ok != right {
					t.Errorf("P2.1: Do(%d, %d, %d) is %d, %v, not %d, %v", op, a, b, got, ok, want, right)
				}
			}
		}
	}
}

func FuzzDo(f *testing.F) {
	f.Add(api.Add, 32767, 1)
	f.Add(api.Mod, math.MinInt64, -1)
	f.Fuzz(func(t *testing.T, op, a, b int) {
		got, ok := word.Do(op, a, b)
		if want, right := told(op, a, b); got != want || ok != right {
			t.Errorf("P2.1: Do(%d, %d, %d) is %d, %v, not %d, %v", op, a, b, got, ok, want, right)
		}
	})
}

func TestFromSeveralGoroutines(t *testing.T) {
	var all sync.WaitGroup
	for i := range 8 {
		all.Go(func() {
			for n := range 1000 {
				got, ok := word.Do(api.Mul, n, i)
				if want, _ := told(api.Mul, n, i); got != want || !ok {
					t.Errorf("R5: Do(Mul, %d, %d) is %d, %v", n, i, got, ok)
				}
			}
		})
	}
	all.Wait()
}
