package count_test

import (
	"math"
	"math/big"
	"testing"

	"handsel/api"
	"handsel/count"
)

// The rules of the chapter, reckoned in numbers without bounds: what wraps round in the program is told by them.

func sum(l ...int) *big.Int {
	s := new(big.Int)
	for _, n := range l {
		s.Add(s, big.NewInt(int64(n)))
	}
	return s
}

func less(a, b int) *big.Int { return new(big.Int).Sub(sum(a), sum(b)) }

func outside(x *big.Int, from, to int) bool { return x.Cmp(sum(from)) < 0 || x.Cmp(sum(to)) > 0 }

func ruleCheck(c api.Count) int {
	switch {
	case outside(sum(c.Value), 0, api.MaxValue):
		return api.ErrRange
	case outside(sum(c.Out), 0, c.Value):
		return api.ErrShort
	case c.In < 0 || outside(sum(c.Value, c.In), math.MinInt, api.MaxValue):
		return api.ErrFull
	}
	return 0
}

func ruleDelta(n int) int {
	switch {
	case n == 0:
		return api.ErrForm
	case outside(sum(n), -api.MaxValue, api.MaxValue):
		return api.ErrRange
	}
	return 0
}

func ruleBoth(c api.Count, n int) int {
	if code := ruleCheck(c); code != 0 {
		return code
	}
	return ruleDelta(n)
}

func ruleHold(c api.Count, n int) (api.Count, int) {
	code := ruleBoth(c, n)
	switch {
	case code != 0:
		return api.Count{}, code
	case n < 0 && sum(c.Value, n).Cmp(sum(c.Out)) < 0:
		return api.Count{}, api.ErrShort
	case n > 0 && sum(c.Value, c.In, n).Cmp(sum(api.MaxValue)) > 0:
		return api.Count{}, api.ErrFull
	case n < 0:
		return api.Count{Value: c.Value, Out: c.Out - n, In: c.In}, 0
	}
	return api.Count{Value: c.Value, Out: c.Out, In: c.In + n}, 0
}

func ruleEnd(c api.Count, n int, done bool) (api.Count, int) {
	code := ruleBoth(c, n)
	value := c.Value
	if done {
		value += n
	}
	switch {
	case code != 0:
		return api.Count{}, code
	case n < 0 && sum(c.Out).Cmp(less(0, n)) < 0, n > 0 && c.In < n:
		return api.Count{}, api.ErrNone
	case n < 0:
		return api.Count{Value: value, Out: c.Out + n, In: c.In}, 0
	}
	return api.Count{Value: value, Out: c.Out, In: c.In - n}, 0
}

func againstRules(t *testing.T, c api.Count, n int) {
	if got, want := count.Delta(n), ruleDelta(n); got != want {
		t.Fatalf("Delta(%d): %d, want %d", n, got, want)
	}
	got, code := count.Hold(c, n)
	if want, wantCode := ruleHold(c, n); got != want || code != wantCode {
		t.Fatalf("Hold(%v, %d): %v %d, want %v %d", c, n, got, code, want, wantCode)
	}
	for _, done := range []bool{false, true} {
		got, code := count.End(c, n, done)
		if want, wantCode := ruleEnd(c, n, done); got != want || code != wantCode {
			t.Fatalf("End(%v, %d, %t): %v %d, want %v %d", c, n, done, got, code, want, wantCode)
		}
	}
}

// TestWhateverIsGiven: no call panics, each is answered by the rules, the least and the greatest int among what is given.
func TestWhateverIsGiven(t *testing.T) {
	edges := []int{
		math.MinInt, math.MinInt + 1, math.MinInt + api.MaxValue, math.MinInt32,
		-api.MaxValue - 1, -api.MaxValue, -50, -1, 0, 1, 49, 50, 51,
		api.MaxValue - 1, api.MaxValue, api.MaxValue + 1,
		math.MaxInt32, math.MaxInt - api.MaxValue, math.MaxInt - 1, math.MaxInt,
	}
	for _, value := range edges {
		for _, out := range edges {
			for _, in := range edges {
				c := api.Count{Value: value, Out: out, In: in}
				// Of a counter that may not be nothing is promised but that Low and High come back.
				low, high := count.Low(c), count.High(c)
				if low != count.Low(c) || high != count.High(c) {
					t.Fatalf("Low or High of %v is not the same twice", c)
				}
				if got, want := count.Check(c), ruleCheck(c); got != want {
					t.Fatalf("Check(%v): %d, want %d", c, got, want)
				}
				for _, n := range edges {
					againstRules(t, c, n)
				}
			}
		}
	}
}

// eachCounter visits all counters that may be.
func eachCounter(visit func(c api.Count)) {
	for value := 0; value <= api.MaxValue; value++ {
		for out := 0; out <= value; out++ {
			for in := 0; in <= api.MaxValue-value; in++ {
				visit(api.Count{Value: value, Out: out, In: in})
			}
		}
	}
}

// inBounds: may the counter be, whatever comes of what is held?
func inBounds(c api.Count) bool {
	return 0 <= c.Value && c.Value <= api.MaxValue && c.Out >= 0 && c.In >= 0 &&
		0 <= count.Low(c) && count.Low(c) <= c.Value && c.Value <= count.High(c) && count.High(c) <= api.MaxValue
}

// TestEveryStepStaysInBounds: of all counters that may be, and all deltas, what is answered may be, too.
func TestEveryStepStaysInBounds(t *testing.T) {
	eachCounter(func(c api.Count) {
		if count.Check(c) != 0 || count.Low(c) != c.Value-c.Out || count.High(c) != c.Value+c.In {
			t.Fatalf("%v: Check %d, Low %d, High %d", c, count.Check(c), count.Low(c), count.High(c))
		}
		for n := -api.MaxValue; n <= api.MaxValue; n++ {
			oneStep(t, c, n)
		}
	})
}

func oneStep(t *testing.T, c api.Count, n int) {
	if h, code := count.Hold(c, n); code == 0 {
		back, backCode := count.End(h, n, false)
		if !inBounds(h) || h.Value != c.Value || back != c || backCode != 0 {
			t.Fatalf("Hold(%v, %d): %v, and held no longer: %v %d", c, n, h, back, backCode)
		}
	}
	for _, done := range []bool{false, true} {
		e, code := count.End(c, n, done)
		if code != 0 {
			continue
		}
		value := c.Value
		if done {
			value += n
		}
		if !inBounds(e) || e.Value != value {
			t.Fatalf("End(%v, %d, %t): %v", c, n, done, e)
		}
	}
}

// endAll ends what is left of l in all orders, each of it done and not done.
func endAll(t *testing.T, c api.Count, l []int) {
	t.Helper()
	if len(l) == 0 && (c.Out != 0 || c.In != 0) {
		t.Fatalf("%v: all is ended, and something is held", c)
	}
	for i, n := range l {
		rest := append(append([]int{}, l[:i]...), l[i+1:]...)
		for _, done := range []bool{false, true} {
			e, code := count.End(c, n, done)
			if code != 0 || !inBounds(e) {
				t.Fatalf("End(%v, %d, %t): %v %d", c, n, done, e, code)
			}
			endAll(t, e, rest)
		}
	}
}

// TestWhateverIsDone: what is held ends in whatever order, done or not, and the value keeps its bounds.
func TestWhateverIsDone(t *testing.T) {
	wanted := [][]int{
		{-30, 40, -20, 60}, {100, -100, 50, -50}, {-1, 1, -1, 1}, {-50, -50, 50, 50},
		{99, 1, 1, -99}, {-100, 1, -1, 100}, {25, 25, 25, 25}, {-25, -25, -25, -25, -25},
	}
	for value := 0; value <= api.MaxValue; value += 10 {
		for _, deltas := range wanted {
			c, held := api.Count{Value: value}, []int{}
			for _, n := range deltas {
				if h, code := count.Hold(c, n); code == 0 {
					c, held = h, append(held, n)
				}
			}
			endAll(t, c, held)
		}
	}
}

// TestLongWalk holds and ends by turns, by a fixed rule, and keeps a list of what is held beside.
func TestLongWalk(t *testing.T) {
	c, held, seed := api.Count{Value: 50}, []int{}, uint64(1)
	next := func(bound int) int {
		seed = seed*6364136223846793005 + 1442695040888963407
		return int(seed>>33) % bound
	}
	for range 200000 {
		if len(held) == 0 || next(2) == 0 {
			n := next(61) - 30
			if h, code := count.Hold(c, n); code == 0 {
				c, held = h, append(held, n)
			}
		} else {
			i := next(len(held))
			e, code := count.End(c, held[i], next(2) == 0)
			if code != 0 {
				t.Fatalf("End(%v, %d): %d, though it is held", c, held[i], code)
			}
			c, held = e, append(held[:i], held[i+1:]...)
		}
		if !inBounds(c) {
			t.Fatalf("out of bounds: %v with %v held", c, held)
		}
	}
}
