package count_test

import (
	"math"
	"testing"

	"handsel/api"
	"handsel/count"
)

const most = api.MaxValue

type checkCase struct {
	c    api.Count
	code int
}

// checkCases: the edges of each part of a counter, and what is told first where several are wrong.
func checkCases() []checkCase {
	return []checkCase{
		{api.Count{}, 0},
		{api.Count{Value: 10, Out: 3, In: 5}, 0},
		{api.Count{Value: most}, 0},
		{api.Count{Value: most, Out: most}, 0},
		{api.Count{Value: 0, In: most}, 0},
		{api.Count{Value: 10, Out: 10, In: 90}, 0},

		{api.Count{Value: -1}, api.ErrRange},
		{api.Count{Value: most + 1}, api.ErrRange},
		{api.Count{Value: math.MinInt}, api.ErrRange},
		{api.Count{Value: math.MaxInt}, api.ErrRange},

		{api.Count{Value: 10, Out: -1}, api.ErrShort},
		{api.Count{Value: 10, Out: 11}, api.ErrShort},
		{api.Count{Value: 0, Out: 1}, api.ErrShort},
		{api.Count{Value: most, Out: most + 1}, api.ErrShort},
		{api.Count{Value: 10, Out: math.MinInt}, api.ErrShort},
		{api.Count{Value: 10, Out: math.MaxInt}, api.ErrShort},

		{api.Count{Value: 10, In: -1}, api.ErrFull},
		{api.Count{Value: 10, In: 91}, api.ErrFull},
		{api.Count{Value: 0, In: most + 1}, api.ErrFull},
		{api.Count{Value: most, In: 1}, api.ErrFull},
		{api.Count{Value: 10, In: math.MinInt}, api.ErrFull},
		{api.Count{Value: 10, In: math.MaxInt}, api.ErrFull},
		{api.Count{Value: most, In: math.MaxInt - most + 1}, api.ErrFull},

		{api.Count{Value: -1, Out: -1, In: -1}, api.ErrRange},
		{api.Count{Value: -1, Out: 0, In: most + 2}, api.ErrRange},
		{api.Count{Value: most + 1, Out: most + 2, In: 0}, api.ErrRange},
		{api.Count{Value: most + 1, Out: 0, In: 1}, api.ErrRange},
		{api.Count{Value: 10, Out: -1, In: -1}, api.ErrShort},
		{api.Count{Value: 10, Out: 11, In: 91}, api.ErrShort},
	}
}

func TestCheck(t *testing.T) {
	for _, x := range checkCases() {
		if code := count.Check(x.c); code != x.code {
			t.Errorf("Check(%v): %d, want %d", x.c, code, x.code)
		}
	}
}

type deltaCase struct{ n, code int }

func deltaCases() []deltaCase {
	return []deltaCase{
		{-most, 0}, {-7, 0}, {-1, 0}, {1, 0}, {7, 0}, {most, 0},
		{0, api.ErrForm},
		{-most - 1, api.ErrRange}, {most + 1, api.ErrRange},
		{math.MinInt, api.ErrRange}, {math.MinInt + 1, api.ErrRange}, {math.MaxInt, api.ErrRange},
	}
}

func TestDelta(t *testing.T) {
	for _, x := range deltaCases() {
		if code := count.Delta(x.n); code != x.code {
			t.Errorf("Delta(%d): %d, want %d", x.n, code, x.code)
		}
	}
}

func TestHold(t *testing.T) {
	cases := []struct {
		c    api.Count
		n    int
		want api.Count
		code int
	}{
		{api.Count{Value: 10}, 7, api.Count{Value: 10, In: 7}, 0},
		{api.Count{Value: 10}, -7, api.Count{Value: 10, Out: 7}, 0},
		{api.Count{Value: 10, Out: 3, In: 5}, 1, api.Count{Value: 10, Out: 3, In: 6}, 0},
		{api.Count{Value: 10, Out: 3, In: 5}, -1, api.Count{Value: 10, Out: 4, In: 5}, 0},

		{api.Count{Value: 10, Out: 3, In: 5}, -7, api.Count{Value: 10, Out: 10, In: 5}, 0},
		{api.Count{Value: 10, Out: 3, In: 5}, -8, api.Count{}, api.ErrShort},
		{api.Count{Value: 10, Out: 3, In: 5}, 85, api.Count{Value: 10, Out: 3, In: 90}, 0},
		{api.Count{Value: 10, Out: 3, In: 5}, 86, api.Count{}, api.ErrFull},

		{api.Count{}, most, api.Count{In: most}, 0},
		{api.Count{}, -1, api.Count{}, api.ErrShort},
		{api.Count{}, -most, api.Count{}, api.ErrShort},
		{api.Count{In: most}, 1, api.Count{}, api.ErrFull},
		{api.Count{In: most}, -1, api.Count{}, api.ErrShort},
		{api.Count{Value: most}, -most, api.Count{Value: most, Out: most}, 0},
		{api.Count{Value: most}, 1, api.Count{}, api.ErrFull},
		{api.Count{Value: most}, most, api.Count{}, api.ErrFull},
		{api.Count{Value: most, Out: most}, -1, api.Count{}, api.ErrShort},
		{api.Count{Value: most, Out: most}, 1, api.Count{}, api.ErrFull},
		{api.Count{Value: 1}, -most, api.Count{}, api.ErrShort},
		{api.Count{Value: 1}, most, api.Count{}, api.ErrFull},
		// What is to come can't go, and what is to go leaves no room, till it is done.
		{api.Count{Value: 10, In: 50}, -11, api.Count{}, api.ErrShort},
		{api.Count{Value: 90, Out: 50}, 11, api.Count{}, api.ErrFull},
	}
	for _, x := range cases {
		if got, code := count.Hold(x.c, x.n); got != x.want || code != x.code {
			t.Errorf("Hold(%v, %d): %v %d, want %v %d", x.c, x.n, got, code, x.want, x.code)
		}
	}
}

func TestEnd(t *testing.T) {
	cases := []struct {
		c    api.Count
		n    int
		done bool
		want api.Count
		code int
	}{
		{api.Count{Value: 10, Out: 3, In: 5}, -3, true, api.Count{Value: 7, In: 5}, 0},
		{api.Count{Value: 10, Out: 3, In: 5}, -3, false, api.Count{Value: 10, In: 5}, 0},
		{api.Count{Value: 10, Out: 3, In: 5}, -2, true, api.Count{Value: 8, Out: 1, In: 5}, 0},
		{api.Count{Value: 10, Out: 3, In: 5}, 5, true, api.Count{Value: 15, Out: 3}, 0},
		{api.Count{Value: 10, Out: 3, In: 5}, 5, false, api.Count{Value: 10, Out: 3}, 0},
		{api.Count{Value: 10, Out: 3, In: 5}, 4, true, api.Count{Value: 14, Out: 3, In: 1}, 0},

		{api.Count{Value: 10, Out: 3, In: 5}, -4, true, api.Count{}, api.ErrNone},
		{api.Count{Value: 10, Out: 3, In: 5}, -4, false, api.Count{}, api.ErrNone},
		{api.Count{Value: 10, Out: 3, In: 5}, 6, true, api.Count{}, api.ErrNone},
		{api.Count{Value: 10, Out: 3, In: 5}, 6, false, api.Count{}, api.ErrNone},

		{api.Count{Value: most, Out: most}, -most, true, api.Count{}, 0},
		{api.Count{Value: most, Out: most}, -most, false, api.Count{Value: most}, 0},
		{api.Count{In: most}, most, true, api.Count{Value: most}, 0},
		{api.Count{In: most}, most, false, api.Count{}, 0},
		{api.Count{In: most}, -1, true, api.Count{}, api.ErrNone},
		{api.Count{Value: most, Out: most}, 1, true, api.Count{}, api.ErrNone},
		{api.Count{}, 1, true, api.Count{}, api.ErrNone},
		{api.Count{}, -1, false, api.Count{}, api.ErrNone},
		{api.Count{Value: most}, -most, true, api.Count{}, api.ErrNone},
		{api.Count{Value: most}, most, false, api.Count{}, api.ErrNone},
	}
	for _, x := range cases {
		if got, code := count.End(x.c, x.n, x.done); got != x.want || code != x.code {
			t.Errorf("End(%v, %d, %t): %v %d, want %v %d", x.c, x.n, x.done, got, code, x.want, x.code)
		}
	}
}

func TestLowHigh(t *testing.T) {
	cases := []struct {
		c         api.Count
		low, high int
	}{
		{api.Count{}, 0, 0},
		{api.Count{Value: 10}, 10, 10},
		{api.Count{Value: 10, Out: 3, In: 5}, 7, 15},
		{api.Count{Value: 10, Out: 10, In: 90}, 0, most},
		{api.Count{Value: most}, most, most},
		{api.Count{Value: most, Out: most}, 0, most},
		{api.Count{In: most}, 0, most},
	}
	for _, x := range cases {
		if low, high := count.Low(x.c), count.High(x.c); low != x.low || high != x.high {
			t.Errorf("Low, High of %v: %d %d, want %d %d", x.c, low, high, x.low, x.high)
		}
	}
}

// TestOrderOfCodes: Check's code is told ahead of Delta's, and both ahead of all others, with the zero counter.
func TestOrderOfCodes(t *testing.T) {
	for _, x := range checkCases() {
		for _, d := range deltaCases() {
			want := x.code
			if want == 0 {
				want = d.code
			}
			if want == 0 {
				continue
			}
			if got, code := count.Hold(x.c, d.n); got != (api.Count{}) || code != want {
				t.Errorf("Hold(%v, %d): %v %d, want none and %d", x.c, d.n, got, code, want)
			}
			for _, done := range []bool{false, true} {
				if got, code := count.End(x.c, d.n, done); got != (api.Count{}) || code != want {
					t.Errorf("End(%v, %d, %t): %v %d, want none and %d", x.c, d.n, done, got, code, want)
				}
			}
		}
	}
}

// TestExample is the document's first one.
func TestExample(t *testing.T) {
	c, code := count.Hold(api.Count{Value: 10}, -7)
	if code != 0 || count.Low(c) != 3 {
		t.Fatalf("7 of 10 to go: %v %d", c, code)
	}
	if _, code := count.Hold(c, -3); code != 0 {
		t.Errorf("3 more to go: %d, want 0", code)
	}
	if _, code := count.Hold(c, -4); code != api.ErrShort {
		t.Errorf("4 more to go: %d, want %d", code, api.ErrShort)
	}
	if got, code := count.End(c, -7, true); got != (api.Count{Value: 3}) || code != 0 {
		t.Errorf("they went: %v %d", got, code)
	}
	if got, code := count.End(c, -7, false); got != (api.Count{Value: 10}) || code != 0 {
		t.Errorf("they did not: %v %d", got, code)
	}
}
