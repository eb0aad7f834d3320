package clerk_test

import (
	"fmt"
	"math"
	"slices"
	"testing"

	"handsel/api"
	"handsel/clerk"
	"handsel/keep"
)

const (
	most     = api.MaxValue
	lastShop = api.Shops - 1
	lastDeal = api.MaxDeals - 1
)

// farNumbers are the edges of what an int can have.
func farNumbers() []int {
	return []int{math.MinInt, math.MinInt + 1, math.MinInt / 2, math.MaxInt/2 + 1, math.MaxInt - 1, math.MaxInt}
}

func ask(shop, deal, counter, delta int) api.Mail {
	return api.Mail{Kind: api.MAsk, Deal: deal, Shop: shop, Want: api.Want{Counter: counter, Delta: delta}}
}

func end(shop, deal int, done bool) api.Mail {
	return api.Mail{Kind: api.MEnd, Deal: deal, Shop: shop, Yes: done}
}

// held is the record of a hold.
func held(deal, counter, delta int) api.Record {
	return api.Record{Kind: api.RHold, Deal: deal, Counter: counter, Delta: delta}
}

// ended is the record of an end.
func ended(deal int, done bool) api.Record {
	return api.Record{Kind: api.REnd, Deal: deal, Done: done}
}

// told is all that a clerk tells.
func told(c *clerk.Clerk) string {
	text := fmt.Sprint(c.Counts(), c.Holds())
	for deal := range api.MaxDeals {
		over, done := c.Over(deal)
		text += fmt.Sprint(" ", over, done)
	}
	return fmt.Sprint(text, c.Records())
}

func must(t *testing.T, no int, w api.World) *clerk.Clerk {
	t.Helper()
	c := clerk.New(no, w)
	if c == nil {
		t.Fatalf("New(%d, %v): nil", no, w)
	}
	return c
}

// says asks a clerk, and looks for a say of just that ask, with Yes or without; without, nothing may be changed.
func says(t *testing.T, c *clerk.Clerk, m api.Mail, yes bool) {
	t.Helper()
	before := told(c)
	want := api.Mail{Kind: api.MSay, Deal: m.Deal, Shop: m.Shop, Want: m.Want, Yes: yes}
	if got, ok := c.Answer(m); got != want || !ok {
		t.Errorf("Answer(%+v): %+v %v, want %+v", m, got, ok, want)
	}
	if got := told(c); !yes && got != before {
		t.Errorf("Answer(%+v): changed: %s, was %s", m, got, before)
	}
}

// ends tells a clerk of an end, and looks for an over that is as the end was.
func ends(t *testing.T, c *clerk.Clerk, m api.Mail) {
	t.Helper()
	want := api.Mail{Kind: api.MOver, Deal: m.Deal, Shop: m.Shop, Want: m.Want, Yes: m.Yes}
	if got, ok := c.Answer(m); got != want || !ok {
		t.Errorf("Answer(%+v): %+v %v, want %+v", m, got, ok, want)
	}
}

// silent looks for no answer, and no change.
func silent(t *testing.T, c *clerk.Clerk, m api.Mail) {
	t.Helper()
	before := told(c)
	if got, ok := c.Answer(m); ok || got != (api.Mail{}) {
		t.Errorf("Answer(%+v): %+v %v, want nothing", m, got, ok)
	}
	if got := told(c); got != before {
		t.Errorf("Answer(%+v): changed: %s, was %s", m, got, before)
	}
}

// again asks what was asked already: the answer is that of the first time, and nothing is changed.
func again(t *testing.T, c *clerk.Clerk, m api.Mail) {
	t.Helper()
	before := told(c)
	if m.Kind == api.MAsk {
		says(t, c, m, true)
	} else {
		ends(t, c, m)
	}
	if got := told(c); got != before {
		t.Errorf("Answer(%+v) again: changed: %s, was %s", m, got, before)
	}
}

func checkRecords(t *testing.T, c *clerk.Clerk, want ...api.Record) {
	t.Helper()
	if got := c.Records(); !slices.Equal(got, want) {
		t.Errorf("Records: %+v, want %+v", got, want)
	}
}

// checkCounts: the two counters, each as Value, Out, In.
func checkCounts(t *testing.T, c *clerk.Clerk, want ...[3]int) {
	t.Helper()
	var counts [api.PerShop]api.Count
	for i, n := range want {
		counts[i] = api.Count{Value: n[0], Out: n[1], In: n[2]}
	}
	if got := c.Counts(); got != counts {
		t.Errorf("Counts: %v, want %v", got, counts)
	}
}

// checkHolds: each as its deal, counter and delta.
func checkHolds(t *testing.T, c *clerk.Clerk, want ...[3]int) {
	t.Helper()
	var all []api.Hold
	for _, h := range want {
		all = append(all, api.Hold{Deal: h[0], Counter: h[1], Delta: h[2]})
	}
	if got := c.Holds(); !slices.Equal(got, all) {
		t.Errorf("Holds: %v, want %v", got, all)
	}
}

func checkOver(t *testing.T, c *clerk.Clerk, deal int, over, done bool) {
	t.Helper()
	if o, d := c.Over(deal); o != over || d != done {
		t.Errorf("Over(%d): %v %v, want %v %v", deal, o, d, over, done)
	}
}

// busy is a clerk of shop 1 of which the deal 0 holds 6 of the 10 of counter 2 to go, and 80 of counter 3 to come, to all that it may have; the deal lastDeal was done, and the one ahead of it was not.
func busy(t *testing.T) *clerk.Clerk {
	t.Helper()
	c := must(t, 1, api.World{2: 10, 3: 20})
	says(t, c, ask(1, 0, 2, -6), true)
	ends(t, c, end(1, lastDeal, true))
	says(t, c, ask(1, 0, 3, 80), true)
	ends(t, c, end(1, lastDeal-1, false))
	return c
}

func TestNew(t *testing.T) {
	worlds := []api.World{
		{}, {1, 2, 3, 4, 5, 6}, {most, most, most, most, most, most},
		{0, most, most, 0, 0, most}, {most, 0, 0, most, most, 0},
	}
	for _, w := range worlds {
		for no := range api.Shops {
			c := must(t, no, w)
			checkRecords(t, c)
			checkCounts(t, c, [3]int{w[2*no], 0, 0}, [3]int{w[2*no+1], 0, 0})
			checkHolds(t, c)
			for deal := range api.MaxDeals {
				checkOver(t, c, deal, false, false)
			}
		}
	}
}

// A clerk is a keeper, just as keep.New has it, by the chapter's own name.
func TestClerkIsAKeeper(t *testing.T) {
	w := api.World{1, 2, 3, 4, 5, 6}
	for no := range api.Shops {
		var k *keep.Keeper = must(t, no, w).Keeper
		if want := keep.New(no, w); k.Counts() != want.Counts() {
			t.Errorf("shop %d: %v, want %v", no, k.Counts(), want.Counts())
		}
	}
}

func TestNewOfNoShop(t *testing.T) {
	for _, no := range append(farNumbers(), -1, -2, api.Shops, api.Shops+1, api.Counters) {
		if c := clerk.New(no, api.World{1, 2, 3, 4, 5, 6}); c != nil {
			t.Errorf("New(%d): a clerk", no)
		}
	}
}

// A counter that may not be is told by its own shop alone.
func TestNewOfWrongCounter(t *testing.T) {
	for counter := range api.Counters {
		for _, value := range append(farNumbers(), -1, most+1) {
			w := api.World{10, 11, 12, 13, 14, 15}
			w[counter] = value
			for no := range api.Shops {
				own := counter/api.PerShop == no
				if c := clerk.New(no, w); (c == nil) != own {
					t.Errorf("New(%d, %v): nil is %v, want %v", no, w, c == nil, own)
				}
			}
		}
	}
}

func TestClerksShareNothing(t *testing.T) {
	w := api.World{2: 10, 3: 20}
	one, other := must(t, 1, w), must(t, 1, w)
	before := told(other)
	says(t, one, ask(1, 0, 2, -3), true)
	ends(t, one, end(1, 0, true))
	one.Crash()
	if got := told(other); got != before {
		t.Errorf("%s, was %s", got, before)
	}
	says(t, other, ask(1, 0, 2, -10), true)
}

// Of each shop, each of its counters and the deals at the edges: an ask that is held, and the end, done and not done.
func TestAnswer(t *testing.T) {
	for counter := range api.Counters {
		for _, deal := range []int{0, 1, lastDeal - 1, lastDeal} {
			for _, done := range []bool{true, false} {
				no := counter / api.PerShop
				c := must(t, no, api.World{50, 50, 50, 50, 50, 50})
				says(t, c, ask(no, deal, counter, -7), true)
				counts := [2][3]int{{50, 0, 0}, {50, 0, 0}}
				counts[counter%2][1] = 7
				checkCounts(t, c, counts[:]...)
				checkHolds(t, c, [3]int{deal, counter, -7})
				checkOver(t, c, deal, false, false)
				checkRecords(t, c, held(deal, counter, -7))

				ends(t, c, end(no, deal, done))
				counts[counter%2] = [3]int{50, 0, 0}
				if done {
					counts[counter%2][0] = 43
				}
				checkCounts(t, c, counts[:]...)
				checkHolds(t, c)
				checkOver(t, c, deal, true, done)
				checkRecords(t, c, held(deal, counter, -7), ended(deal, done))
			}
		}
	}
}

// A counter that has 10; 7 are held to go: 3 more may go, 4 not.
func TestAnswerOfTheFirstExample(t *testing.T) {
	for _, done := range []bool{true, false} {
		c := must(t, 0, api.World{10})
		says(t, c, ask(0, 0, 0, -7), true)
		says(t, c, ask(0, 1, 0, -4), false)
		says(t, c, ask(0, 1, 0, -3), true)
		ends(t, c, end(0, 1, false))
		ends(t, c, end(0, 0, done))
		left := 10
		if done {
			left = 3
		}
		checkCounts(t, c, [3]int{left, 0, 0}, [3]int{})
		checkRecords(t, c, held(0, 0, -7), held(1, 0, -3), ended(1, false), ended(0, done))
	}
}

// Two deals want 20 and 40 of a counter that has 50. Who is held first is held.
func TestAnswerOfTheSecondExample(t *testing.T) {
	for _, first := range []int{20, 40} {
		c := must(t, 2, api.World{4: 50, 5: 50})
		says(t, c, ask(2, 1, 5, 5), true)
		says(t, c, ask(2, 0, 4, -first), true)
		says(t, c, ask(2, 1, 4, first-60), false)
		ends(t, c, end(2, 1, false))
		checkHolds(t, c, [3]int{0, 4, -first})
		ends(t, c, end(2, 0, true))
		checkCounts(t, c, [3]int{50 - first, 0, 0}, [3]int{50, 0, 0})
	}
}

// As much as there is, and as there is room for, is held; one more is not.
func TestAskOfTheEdgesOfACounter(t *testing.T) {
	cases := []struct {
		value, delta int
		yes          bool
	}{
		{0, -1, false}, {0, 1, true}, {0, most, true}, {0, -most, false},
		{1, -1, true}, {1, -2, false}, {1, most - 1, true}, {1, most, false},
		{most, 1, false}, {most, -1, true}, {most, -most, true}, {most, most, false},
		{most - 1, 1, true}, {most - 1, 2, false}, {most - 1, 1 - most, true}, {most - 1, -most, false},
		{50, 0, false}, {50, -50, true}, {50, -51, false}, {50, 50, true}, {50, 51, false},
		{0, most + 1, false}, {most, -most - 1, false},
	}
	for _, x := range cases {
		for counter := range api.Counters {
			var w api.World
			w[counter] = x.value
			no := counter / api.PerShop
			c := must(t, no, w)
			says(t, c, ask(no, 3, counter, x.delta), x.yes)
			if x.yes {
				checkHolds(t, c, [3]int{3, counter, x.delta})
			}
		}
	}
}

// An ask is answered, whatever is wrong with it, as long as it is to this shop.
func TestAskOfWhatCantBe(t *testing.T) {
	cases := []struct {
		what                 string
		deal, counter, delta int
	}{
		{"the deal -1", -1, 2, -1},
		{"the deal MaxDeals", api.MaxDeals, 2, -1},
		{"the counter -1", 1, -1, -1},
		{"the counter Counters", 1, api.Counters, -1},
		{"the counter ahead of the shop's", 1, 1, 1},
		{"the counter behind the shop's", 1, 4, 1},
		{"nothing", 1, 2, 0},
		{"too much", 1, 2, most + 1},
		{"too little", 1, 2, -most - 1},
		{"a deal that was done", lastDeal, 2, -1},
		{"a deal that was not done", lastDeal - 1, 2, -1},
		{"less than is held", 0, 2, -5},
		{"more than is held", 0, 2, -7},
		{"to come what is held to go", 0, 2, 6},
		{"more than there is", 1, 2, -5},
		{"more than there is room for", 1, 3, 1},
		{"all wrong", -1, -1, 0},
	}
	for _, x := range cases {
		c := busy(t)
		// Asked twice: had the first one left something, the second would be taken.
		for range 2 {
			says(t, c, ask(1, x.deal, x.counter, x.delta), false)
		}
		if t.Failed() {
			t.Fatal(x.what)
		}
		says(t, c, ask(1, 1, 2, -4), true)
	}
}

// Yes of an ask is nothing: it is held, or not, as without, and what is written is the same.
func TestAskWithYes(t *testing.T) {
	c := must(t, 1, api.World{2: 10, 3: 20})
	m := ask(1, 4, 2, -6)
	m.Yes = true
	says(t, c, m, true)
	checkRecords(t, c, held(4, 2, -6))
	again(t, c, m)
	again(t, c, ask(1, 4, 2, -6))
	m.Deal = 5
	says(t, c, m, false)
	ends(t, c, end(1, 4, true))
	m.Deal = 4
	says(t, c, m, false)
}

func TestAskAgain(t *testing.T) {
	c := must(t, 1, api.World{2: 10, 3: 20})
	first, second := ask(1, 4, 2, -6), ask(1, 4, 3, 80)
	says(t, c, first, true)
	again(t, c, first)
	says(t, c, second, true)
	again(t, c, first)
	again(t, c, second)
	for _, delta := range []int{-5, -7, -1, 6, 1, most, -most} {
		says(t, c, ask(1, 4, 2, delta), false)
	}
	again(t, c, first)
	checkHolds(t, c, [3]int{4, 2, -6}, [3]int{4, 3, 80})
	checkRecords(t, c, held(4, 2, -6), held(4, 3, 80))
}

// An ask that comes when the deal is over there is answered without Yes, and nothing is held.
func TestAskThatComesLate(t *testing.T) {
	for _, done := range []bool{true, false} {
		for _, was := range []bool{true, false} {
			c := must(t, 1, api.World{2: 10, 3: 20})
			if was {
				says(t, c, ask(1, 4, 2, -6), true)
			}
			ends(t, c, end(1, 4, done))
			before := told(c)
			says(t, c, ask(1, 4, 2, -6), false)
			says(t, c, ask(1, 4, 3, 1), false)
			c.Crash()
			says(t, c, ask(1, 4, 2, -6), false)
			checkHolds(t, c)
			if got := told(c); got != before {
				t.Errorf("%s, was %s", got, before)
			}
		}
	}
}

// What could not be held may be held later, when the counter is free again.
func TestAskOfWhatCouldNotBeHeld(t *testing.T) {
	c := must(t, 0, api.World{10, 95})
	says(t, c, ask(0, 0, 0, -7), true)
	says(t, c, ask(0, 1, 1, 4), true)
	says(t, c, ask(0, 2, 0, -4), false)
	says(t, c, ask(0, 2, 1, 3), false)
	ends(t, c, end(0, 1, false))
	says(t, c, ask(0, 2, 1, 3), true)
	ends(t, c, end(0, 0, false))
	says(t, c, ask(0, 2, 0, -4), true)
	checkHolds(t, c, [3]int{2, 1, 3}, [3]int{2, 0, -4})
	checkRecords(t, c, held(0, 0, -7), held(1, 1, 4), ended(1, false), held(2, 1, 3), ended(0, false), held(2, 0, -4))
}

// All that is held of a deal goes by one end, and nothing of the others.
func TestEnd(t *testing.T) {
	for _, done := range []bool{true, false} {
		c := must(t, lastShop, api.World{4: 50, 5: 50})
		says(t, c, ask(lastShop, 0, 4, -10), true)
		says(t, c, ask(lastShop, 1, 4, 20), true)
		says(t, c, ask(lastShop, 0, 5, 30), true)
		says(t, c, ask(lastShop, 1, 5, -40), true)
		ends(t, c, end(lastShop, 0, done))
		if done {
			checkCounts(t, c, [3]int{40, 0, 20}, [3]int{80, 40, 0})
		} else {
			checkCounts(t, c, [3]int{50, 0, 20}, [3]int{50, 40, 0})
		}
		checkHolds(t, c, [3]int{1, 4, 20}, [3]int{1, 5, -40})
		checkOver(t, c, 0, true, done)
		checkOver(t, c, 1, false, false)
	}
}

func TestEndAgain(t *testing.T) {
	for _, done := range []bool{true, false} {
		for _, was := range []bool{true, false} {
			c := must(t, 1, api.World{2: 10, 3: 20})
			if was {
				says(t, c, ask(1, 4, 2, -6), true)
			}
			ends(t, c, end(1, 4, done))
			again(t, c, end(1, 4, done))
			silent(t, c, end(1, 4, !done))
			again(t, c, end(1, 4, done))
			says(t, c, ask(1, 5, 2, -1), true)
			silent(t, c, end(1, 4, !done))
			again(t, c, end(1, 4, done))
			checkOver(t, c, 4, true, done)
		}
	}
}

// Of all deals there is an end, though nothing was held; of their neighbours there is none.
func TestEndOfWhatWasNotHeld(t *testing.T) {
	for no := range api.Shops {
		for _, done := range []bool{true, false} {
			c := must(t, no, api.World{1, 2, 3, 4, 5, 6})
			var all []api.Record
			for deal := range api.MaxDeals {
				ends(t, c, end(no, deal, done))
				checkOver(t, c, deal, true, done)
				all = append(all, ended(deal, done))
			}
			for _, deal := range []int{-1, -2, api.MaxDeals, api.MaxDeals + 1} {
				silent(t, c, end(no, deal, done))
				silent(t, must(t, no, api.World{}), end(no, deal, done))
			}
			checkRecords(t, c, all...)
			checkCounts(t, c, [3]int{2*no + 1, 0, 0}, [3]int{2*no + 2, 0, 0})
		}
	}
}

// The want of an end is told again, whatever it is, and does nothing: neither is it written, nor is an end that has another one another end.
func TestEndWithAWant(t *testing.T) {
	wants := []api.Want{{Counter: 2, Delta: -6}, {Counter: 2}, {Delta: 1}, {Counter: -1, Delta: -1}, {Counter: api.Counters, Delta: most + 1}}
	for _, n := range farNumbers() {
		wants = append(wants, api.Want{Counter: n, Delta: n}, api.Want{Counter: n}, api.Want{Delta: n})
	}
	for _, done := range []bool{true, false} {
		for _, w := range wants {
			c := must(t, 1, api.World{2: 10, 3: 20})
			says(t, c, ask(1, 4, 2, -6), true)
			m := end(1, 4, done)
			m.Want = w
			ends(t, c, m)
			checkRecords(t, c, held(4, 2, -6), ended(4, done))
			again(t, c, m)
			again(t, c, end(1, 4, done))
			m.Yes = !done
			silent(t, c, m)
		}
	}
}
