package shop_test

import (
	"fmt"
	"math"
	"slices"
	"testing"

	"handsel/api"
	"handsel/shop"
)

const (
	most     = api.MaxValue
	lastShop = api.Shops - 1
	lastDeal = api.MaxDeals - 1
)

// hold asks by three numbers, which is shorter than a want.
func hold(s *shop.Shop, deal, counter, delta int) int {
	return s.Hold(deal, api.Want{Counter: counter, Delta: delta})
}

// must makes a shop, and holds all that is given: each a deal, a counter and its delta.
func must(t *testing.T, no int, w api.World, holds ...[3]int) *shop.Shop {
	t.Helper()
	s := shop.New(no, w)
	if s == nil {
		t.Fatalf("New(%d, %v): nil", no, w)
	}
	for _, h := range holds {
		if code := hold(s, h[0], h[1], h[2]); code != 0 {
			t.Fatalf("Hold%v: code %d", h, code)
		}
	}
	return s
}

// end is an End that has no code.
func end(t *testing.T, s *shop.Shop, deal int, done bool) {
	t.Helper()
	if code := s.End(deal, done); code != 0 {
		t.Fatalf("End(%d, %v): code %d", deal, done, code)
	}
}

// told is all that a shop tells.
func told(s *shop.Shop) string {
	text := fmt.Sprint(s.Counts(), s.Holds())
	for deal := range api.MaxDeals {
		over, done := s.Over(deal)
		text += fmt.Sprint(" ", over, done)
	}
	return text
}

// holds are those that are given as three numbers each.
func holds(l ...[3]int) []api.Hold {
	var all []api.Hold
	for _, h := range l {
		all = append(all, api.Hold{Deal: h[0], Counter: h[1], Delta: h[2]})
	}
	return all
}

func checkHolds(t *testing.T, s *shop.Shop, want ...[3]int) {
	t.Helper()
	if got := s.Holds(); !slices.Equal(got, holds(want...)) {
		t.Errorf("Holds: %v, want %v", got, want)
	}
}

// checkCounts: the two counters, each as Value, Out, In.
func checkCounts(t *testing.T, s *shop.Shop, want ...[3]int) {
	t.Helper()
	var counts [api.PerShop]api.Count
	for i, c := range want {
		counts[i] = api.Count{Value: c[0], Out: c[1], In: c[2]}
	}
	if got := s.Counts(); got != counts {
		t.Errorf("Counts: %v, want %v", got, counts)
	}
}

func checkOver(t *testing.T, s *shop.Shop, deal int, over, done bool) {
	t.Helper()
	if o, d := s.Over(deal); o != over || d != done {
		t.Errorf("Over(%d): %v %v, want %v %v", deal, o, d, over, done)
	}
}

func TestNew(t *testing.T) {
	worlds := []api.World{
		{}, {1, 2, 3, 4, 5, 6}, {most, most, most, most, most, most},
		{0, most, most, 0, 0, most}, {most, 0, 0, most, most, 0},
	}
	for _, w := range worlds {
		for no := range api.Shops {
			s := must(t, no, w)
			checkCounts(t, s, [3]int{w[2*no], 0, 0}, [3]int{w[2*no+1], 0, 0})
			checkHolds(t, s)
			for deal := range api.MaxDeals {
				checkOver(t, s, deal, false, false)
			}
		}
	}
}

func TestNewOfNoShop(t *testing.T) {
	// The halves and quarters of what an int can have would be shops again if a product of them wrapped round.
	wrong := []int{
		-1, -2, api.Shops, api.Shops + 1, api.Counters,
		math.MinInt, math.MinInt + 1, math.MaxInt - 1, math.MaxInt,
		math.MinInt / 2, math.MaxInt/2 + 1, math.MaxInt/2 + 2, math.MinInt/2 + 1,
	}
	for _, no := range wrong {
		if s := shop.New(no, api.World{1, 2, 3, 4, 5, 6}); s != nil {
			t.Errorf("New(%d): a shop", no)
		}
	}
}

// A counter that may not be is told by its own shop alone.
func TestNewOfWrongCounter(t *testing.T) {
	wrong := []int{-1, most + 1, -most, 2 * most, math.MinInt, math.MinInt + 1, math.MaxInt - 1, math.MaxInt}
	for counter := range api.Counters {
		for _, value := range wrong {
			w := api.World{10, 11, 12, 13, 14, 15}
			w[counter] = value
			for no := range api.Shops {
				own := counter/api.PerShop == no
				if s := shop.New(no, w); (s == nil) != own {
					t.Errorf("New(%d, %v): nil is %v, want %v", no, w, s == nil, own)
				}
			}
		}
	}
}

func TestNewMakesShopsOfTheirOwn(t *testing.T) {
	w := api.World{2: 10, 3: 20}
	one := must(t, 1, w)
	other := must(t, 1, w)
	before := told(other)
	if code := hold(one, 0, 2, -3); code != 0 {
		t.Fatalf("code %d", code)
	}
	end(t, one, 0, true)
	end(t, one, 1, false)
	if got := told(other); got != before {
		t.Errorf("%s, want %s", got, before)
	}
}

func TestHold(t *testing.T) {
	s := must(t, 1, api.World{2: 10, 3: 20}, [3]int{4, 2, -6}, [3]int{0, 3, 7}, [3]int{4, 3, 70}, [3]int{lastDeal, 2, 90}, [3]int{0, 2, -4})
	checkCounts(t, s, [3]int{10, 10, 90}, [3]int{20, 0, 77})
	checkHolds(t, s, [3]int{4, 2, -6}, [3]int{0, 3, 7}, [3]int{4, 3, 70}, [3]int{lastDeal, 2, 90}, [3]int{0, 2, -4})
	for deal := range api.MaxDeals {
		checkOver(t, s, deal, false, false)
	}
}

func TestHoldOfEachShop(t *testing.T) {
	for counter := range api.Counters {
		for no := range api.Shops {
			s := must(t, no, api.World{50, 50, 50, 50, 50, 50})
			before, want := told(s), api.ErrRange
			if counter/api.PerShop == no {
				want = 0
			}
			if code := hold(s, 3, counter, -7); code != want {
				t.Errorf("shop %d, counter %d: code %d, want %d", no, counter, code, want)
			}
			if want != 0 {
				if got := told(s); got != before {
					t.Errorf("shop %d, counter %d: changed: %s", no, counter, got)
				}
				continue
			}
			checkHolds(t, s, [3]int{3, counter, -7})
			counts := [2][3]int{{50, 0, 0}, {50, 0, 0}}
			counts[counter%2][1] = 7
			checkCounts(t, s, counts[:]...)
		}
	}
}

// busy is a shop 1 of which the deal 0 holds 6 of the 10 of counter 2 to go, and 80 of counter 3 to come, to all that it may have; the deal lastDeal was done, and the one ahead of it was not.
func busy(t *testing.T) *shop.Shop {
	t.Helper()
	s := must(t, 1, api.World{2: 10, 3: 20}, [3]int{0, 2, -6}, [3]int{0, 3, 80})
	end(t, s, lastDeal, true)
	end(t, s, lastDeal-1, false)
	return s
}

// Each case is wrong in what it is named by, and, from there on, in what would be told behind that.
func TestHoldCodes(t *testing.T) {
	cases := []struct {
		what                 string
		deal, counter, delta int
		code                 int
	}{
		{"deal -1", -1, 2, -1, api.ErrRange},
		{"deal MaxDeals", api.MaxDeals, 2, -1, api.ErrRange},
		{"least deal", math.MinInt, 2, -1, api.ErrRange},
		{"greatest deal", math.MaxInt, 2, -1, api.ErrRange},
		{"deal -1, delta 0", -1, 2, 0, api.ErrRange},
		{"deal MaxDeals, delta 0", api.MaxDeals, 2, 0, api.ErrRange},
		{"deal -1, of another shop", -1, 0, -1, api.ErrRange},
		{"deal MaxDeals, all else wrong", api.MaxDeals, math.MinInt, 0, api.ErrRange},

		{"counter -1", 1, -1, -1, api.ErrRange},
		{"counter Counters", 1, api.Counters, -1, api.ErrRange},
		{"least counter", 1, math.MinInt, -1, api.ErrRange},
		{"greatest counter", 1, math.MaxInt, -1, api.ErrRange},
		{"counter -1, delta 0", 1, -1, 0, api.ErrRange},
		{"delta 0", 1, 2, 0, api.ErrForm},
		{"delta below", 1, 2, -most - 1, api.ErrRange},
		{"delta above", 1, 2, most + 1, api.ErrRange},
		{"least delta", 1, 2, math.MinInt, api.ErrRange},
		{"greatest delta", 1, 2, math.MaxInt, api.ErrRange},
		{"delta 0, of another shop", 1, 0, 0, api.ErrForm},
		{"delta 0, of a deal that is over", lastDeal, 2, 0, api.ErrForm},
		{"delta 0, of what is held", 0, 2, 0, api.ErrForm},
		{"delta below, of a deal that is over", lastDeal, 2, -most - 1, api.ErrRange},
		{"delta above, of what is held", 0, 2, most + 1, api.ErrRange},

		{"of the shop ahead", 1, 1, 1, api.ErrRange},
		{"of the shop behind", 1, 4, 1, api.ErrRange},
		{"first counter", 1, 0, 1, api.ErrRange},
		{"last counter", 1, api.Counters - 1, 1, api.ErrRange},
		{"of another shop, of a deal that was done", lastDeal, 0, 1, api.ErrRange},
		{"of another shop, of a deal that was not", lastDeal - 1, 4, 1, api.ErrRange},

		{"behind an end, done", lastDeal, 2, -1, api.ErrOver},
		{"behind an end, not done", lastDeal - 1, 3, -1, api.ErrOver},
		{"behind an end, too little", lastDeal, 2, -most, api.ErrOver},
		{"behind an end, too much", lastDeal - 1, 3, most, api.ErrOver},

		{"less than is held", 0, 2, -5, api.ErrOther},
		{"more than is held", 0, 2, -7, api.ErrOther},
		{"as much the other way", 0, 2, 6, api.ErrOther},
		{"other than is held, too little", 0, 2, -most, api.ErrOther},
		{"other than is held, too much", 0, 3, most, api.ErrOther},
		{"as is held of its other counter", 0, 3, -6, api.ErrOther},

		{"too little", 1, 2, -5, api.ErrShort},
		{"by far too little", 1, 2, -most, api.ErrShort},
		{"what is to come can't go", 1, 3, -21, api.ErrShort},
		{"too much", 1, 2, 91, api.ErrFull},
		{"by far too much", 1, 3, most, api.ErrFull},
		{"full", 1, 3, 1, api.ErrFull},
		{"what is to go leaves no room", 1, 2, 96, api.ErrFull},

		{"the same again", 0, 2, -6, 0},
		{"the same again, where it is full", 0, 3, 80, 0},
	}
	for _, x := range cases {
		s := busy(t)
		before := told(s)
		if code := hold(s, x.deal, x.counter, x.delta); code != x.code {
			t.Errorf("%s: code %d, want %d", x.what, code, x.code)
		}
		if got := told(s); got != before {
			t.Errorf("%s: changed: %s, was %s", x.what, got, before)
		}
	}
}

func TestHoldToTheEdge(t *testing.T) {
	cases := []struct {
		deal, counter, delta int
		counts               [2][3]int
	}{
		{1, 2, -4, [2][3]int{{10, 10, 0}, {20, 0, 80}}},
		{1, 2, 90, [2][3]int{{10, 6, 90}, {20, 0, 80}}},
		{1, 3, -20, [2][3]int{{10, 6, 0}, {20, 20, 80}}},
		{lastDeal - 2, 2, -1, [2][3]int{{10, 7, 0}, {20, 0, 80}}},
	}
	for _, x := range cases {
		s := busy(t)
		if code := hold(s, x.deal, x.counter, x.delta); code != 0 {
			t.Errorf("%v: code %d", x, code)
		}
		checkCounts(t, s, x.counts[:]...)
		checkHolds(t, s, [3]int{0, 2, -6}, [3]int{0, 3, 80}, [3]int{x.deal, x.counter, x.delta})
	}
}

func TestHoldAtTheEdgesOfACounter(t *testing.T) {
	s := must(t, 0, api.World{0, most})
	for _, x := range []struct{ counter, delta, code int }{
		{0, -1, api.ErrShort}, {0, -most, api.ErrShort}, {1, 1, api.ErrFull}, {1, most, api.ErrFull},
		{0, most, 0}, {1, -most, 0},
	} {
		if code := hold(s, 5, x.counter, x.delta); code != x.code {
			t.Errorf("%v: code %d", x, code)
		}
	}
	checkCounts(t, s, [3]int{0, 0, most}, [3]int{most, most, 0})
	checkHolds(t, s, [3]int{5, 0, most}, [3]int{5, 1, -most})
}

// The same want of two deals is two holds.
func TestHoldOfTwoDealsAlike(t *testing.T) {
	s := must(t, 1, api.World{2: 10}, [3]int{1, 2, -5}, [3]int{2, 2, -5})
	checkCounts(t, s, [3]int{10, 10, 0}, [3]int{0, 0, 0})
	checkHolds(t, s, [3]int{1, 2, -5}, [3]int{2, 2, -5})
}

func TestHoldAgainKeepsItsPlace(t *testing.T) {
	s := must(t, 1, api.World{2: 10, 3: 20}, [3]int{1, 2, -5}, [3]int{2, 3, 9}, [3]int{1, 2, -5}, [3]int{0, 2, 1}, [3]int{2, 3, 9})
	checkHolds(t, s, [3]int{1, 2, -5}, [3]int{2, 3, 9}, [3]int{0, 2, 1})
	checkCounts(t, s, [3]int{10, 5, 1}, [3]int{20, 0, 9})
}

// A shop can hold a want of each deal of each of its counters.
func TestHoldAllThatMayBe(t *testing.T) {
	s := must(t, lastShop, api.World{4: 50, 5: 50})
	var all [][3]int
	for deal := lastDeal; deal >= 0; deal-- {
		for _, counter := range []int{5, 4} {
			x := [3]int{deal, counter, 2*(deal%2) - 1}
			if code := hold(s, x[0], x[1], x[2]); code != 0 {
				t.Fatalf("%v: code %d", x, code)
			}
			all = append(all, x)
		}
	}
	checkHolds(t, s, all...)
	checkCounts(t, s, [3]int{50, 4, 4}, [3]int{50, 4, 4})
}
