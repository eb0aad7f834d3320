package shop_test

import (
	"math"
	"testing"

	"handsel/api"
	"handsel/shop"
)

func TestEnd(t *testing.T) {
	cases := []struct {
		deal   int
		done   bool
		counts [2][3]int
		left   [][3]int
	}{
		{4, true, [2][3]int{{4, 3, 8}, {100, 0, 0}}, [][3]int{{0, 2, -3}, {lastDeal, 2, 8}}},
		{4, false, [2][3]int{{10, 3, 8}, {20, 0, 0}}, [][3]int{{0, 2, -3}, {lastDeal, 2, 8}}},
		{0, true, [2][3]int{{7, 6, 8}, {20, 0, 80}}, [][3]int{{4, 2, -6}, {lastDeal, 2, 8}, {4, 3, 80}}},
		{0, false, [2][3]int{{10, 6, 8}, {20, 0, 80}}, [][3]int{{4, 2, -6}, {lastDeal, 2, 8}, {4, 3, 80}}},
		{lastDeal, true, [2][3]int{{18, 9, 0}, {20, 0, 80}}, [][3]int{{4, 2, -6}, {0, 2, -3}, {4, 3, 80}}},
		{lastDeal, false, [2][3]int{{10, 9, 0}, {20, 0, 80}}, [][3]int{{4, 2, -6}, {0, 2, -3}, {4, 3, 80}}},
		{5, true, [2][3]int{{10, 9, 8}, {20, 0, 80}}, [][3]int{{4, 2, -6}, {0, 2, -3}, {lastDeal, 2, 8}, {4, 3, 80}}},
		{5, false, [2][3]int{{10, 9, 8}, {20, 0, 80}}, [][3]int{{4, 2, -6}, {0, 2, -3}, {lastDeal, 2, 8}, {4, 3, 80}}},
	}
	for _, x := range cases {
		s := must(t, 1, api.World{2: 10, 3: 20}, [3]int{4, 2, -6}, [3]int{0, 2, -3}, [3]int{lastDeal, 2, 8}, [3]int{4, 3, 80})
		end(t, s, x.deal, x.done)
		checkCounts(t, s, x.counts[:]...)
		checkHolds(t, s, x.left...)
		for deal := range api.MaxDeals {
			checkOver(t, s, deal, deal == x.deal, deal == x.deal && x.done)
		}
	}
}

func TestEndOfNoDeal(t *testing.T) {
	for _, deal := range []int{-1, -2, api.MaxDeals, api.MaxDeals + 1, math.MinInt, math.MinInt + 1, math.MaxInt - 1, math.MaxInt} {
		for _, done := range []bool{true, false} {
			s := busy(t)
			before := told(s)
			if code := s.End(deal, done); code != api.ErrRange {
				t.Errorf("End(%d, %v): code %d", deal, done, code)
			}
			if got := told(s); got != before {
				t.Errorf("End(%d, %v): changed: %s, was %s", deal, done, got, before)
			}
			checkOver(t, s, deal, false, false)
		}
	}
}

// A deal is over once: so again is nothing more, otherwise is a fault, and neither changes anything.
func TestEndAgain(t *testing.T) {
	for deal := range api.MaxDeals {
		for _, done := range []bool{true, false} {
			s := must(t, 1, api.World{2: 10, 3: 20}, [3]int{deal, 2, -6}, [3]int{(deal + 1) % api.MaxDeals, 2, 5}, [3]int{deal, 3, 80})
			end(t, s, deal, done)
			before := told(s)
			for range 2 {
				if code := s.End(deal, done); code != 0 {
					t.Errorf("deal %d, so again: code %d", deal, code)
				}
				if code := s.End(deal, !done); code != api.ErrOther {
					t.Errorf("deal %d, otherwise: code %d", deal, code)
				}
				if got := told(s); got != before {
					t.Errorf("deal %d: changed: %s, was %s", deal, got, before)
				}
			}
		}
	}
}

// Of a deal that is over nothing is held any more, not even what was.
func TestHoldBehindEnd(t *testing.T) {
	for _, done := range []bool{true, false} {
		s := must(t, 1, api.World{2: 10, 3: 20}, [3]int{4, 2, -6})
		end(t, s, 4, done)
		before := told(s)
		for _, w := range []api.Want{{Counter: 2, Delta: -6}, {Counter: 2, Delta: -1}, {Counter: 3, Delta: 1}} {
			if code := s.Hold(4, w); code != api.ErrOver {
				t.Errorf("Hold(4, %v): code %d", w, code)
			}
		}
		if got := told(s); got != before {
			t.Errorf("changed: %s, was %s", got, before)
		}
		if code := hold(s, 3, 2, -1); code != 0 {
			t.Errorf("of another deal: code %d", code)
		}
	}
}

// What was held is free again when the deal was not done, and gone, or there, when it was.
func TestEndMakesRoom(t *testing.T) {
	cases := []struct {
		done               bool
		delta, again, code int
	}{
		{false, -10, -10, 0}, {false, -10, 90, 0}, {false, -10, 91, api.ErrFull},
		{true, -10, -1, api.ErrShort}, {true, -10, most, 0},
		{false, 90, 90, 0}, {false, 90, -11, api.ErrShort},
		{true, 90, -most, 0}, {true, 90, 1, api.ErrFull},
	}
	for _, x := range cases {
		s := must(t, 0, api.World{10}, [3]int{0, 0, x.delta})
		end(t, s, 0, x.done)
		if code := hold(s, 1, 0, x.again); code != x.code {
			t.Errorf("%v: code %d", x, code)
		}
	}
}

// The examples of the document that are a shop's.
func TestExamples(t *testing.T) {
	s := must(t, 0, api.World{10, 50}, [3]int{0, 0, -7})
	if code := hold(s, 1, 0, -4); code != api.ErrShort {
		t.Errorf("4 more: code %d", code)
	}
	if code := hold(s, 1, 0, -3); code != 0 {
		t.Errorf("3 more: code %d", code)
	}
	end(t, s, 1, false)
	end(t, s, 0, true)
	checkCounts(t, s, [3]int{3, 0, 0}, [3]int{50, 0, 0})

	if a, b := hold(s, 2, 1, -20), hold(s, 3, 1, -40); a != 0 || b != api.ErrShort {
		t.Errorf("20, then 40: codes %d %d", a, b)
	}
	end(t, s, 3, false)
	end(t, s, 2, true)
	checkCounts(t, s, [3]int{3, 0, 0}, [3]int{30, 0, 0})
}

func TestOverOfNoDeal(t *testing.T) {
	s := must(t, 0, api.World{})
	for deal := range api.MaxDeals {
		end(t, s, deal, true)
	}
	for _, deal := range []int{-1, -api.MaxDeals, api.MaxDeals, 2 * api.MaxDeals, math.MinInt, math.MinInt + 1, math.MaxInt - 1, math.MaxInt} {
		checkOver(t, s, deal, false, false)
	}
}

// Who asked may change what was answered, and lengthen it; the shop stays as it is.
func TestAnswersAreNewMemory(t *testing.T) {
	s := must(t, 1, api.World{2: 10, 3: 20}, [3]int{1, 2, -5}, [3]int{2, 3, 9}, [3]int{3, 2, -1})
	before := told(s)
	one, other := s.Holds(), s.Holds()
	counts := s.Counts()
	for i := range one {
		one[i] = api.Hold{Deal: 7, Counter: 7, Delta: 7}
	}
	one = append(one, api.Hold{Deal: 6})
	one = append(one[:1], api.Hold{Deal: 5})
	counts[0], counts[1] = api.Count{Value: -1}, api.Count{Out: 9}
	if got := told(s); got != before {
		t.Errorf("changed: %s, was %s (%v)", got, before, one)
	}
	if other[0].Deal != 1 || other[2].Deal != 3 {
		t.Errorf("another answer changed: %v", other)
	}
	if code := hold(s, 4, 3, 2); code != 0 {
		t.Fatalf("code %d", code)
	}
	checkHolds(t, s, [3]int{1, 2, -5}, [3]int{2, 3, 9}, [3]int{3, 2, -1}, [3]int{4, 3, 2})
}

// What was answered ahead stays as it was, whatever the shop does then.
func TestAnswersStay(t *testing.T) {
	s := must(t, 1, api.World{2: 10, 3: 20}, [3]int{1, 2, -5}, [3]int{2, 3, 9}, [3]int{3, 2, -1})
	ahead := s.Holds()
	behind := append(ahead, api.Hold{Deal: 6})
	end(t, s, 1, true)
	if code := hold(s, 4, 3, 2); code != 0 {
		t.Fatalf("code %d", code)
	}
	for i, h := range holds([3]int{1, 2, -5}, [3]int{2, 3, 9}, [3]int{3, 2, -1}, [3]int{6, 0, 0}) {
		if behind[i] != h {
			t.Errorf("%d: %v, want %v", i, behind[i], h)
		}
	}
}

// Numbers that are no shop, deal or counter: a code is told, and nothing is changed.
func TestNoCallPanics(t *testing.T) {
	odd := []int{math.MinInt, math.MinInt + 1, -most - 1, -9, -1, api.MaxDeals, most + 1, math.MaxInt - 1, math.MaxInt}
	for _, a := range odd {
		for _, b := range odd {
			shop.New(a, api.World{b, b, b, b, b, b})
			shop.New(0, api.World{a, b, a, b, a, b})
			for _, c := range odd {
				s := busy(t)
				before := told(s)
				if hold(s, a, b, c) != api.ErrRange || hold(s, 1, b, c) != api.ErrRange || s.End(a, c > 0) != api.ErrRange {
					t.Errorf("%d %d %d: not ErrRange", a, b, c)
				}
				s.Over(a)
				if got := told(s); got != before {
					t.Errorf("%d %d %d: changed: %s", a, b, c, got)
				}
			}
		}
	}
}
