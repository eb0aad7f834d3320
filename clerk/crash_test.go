package clerk_test

import (
	"testing"

	"handsel/api"
	"handsel/clerk"
)

// crash holds all that a clerk tells behind a crash, and behind a second one, against what it told ahead.
func crash(t *testing.T, c *clerk.Clerk) {
	t.Helper()
	before := told(c)
	for n := range 2 {
		c.Crash()
		if got := told(c); got != before {
			t.Errorf("crash %d: %s, was %s", n, got, before)
		}
	}
}

func TestCrashAtTheBeginning(t *testing.T) {
	for no := range api.Shops {
		c := must(t, no, api.World{0, most, 10, 20, most, 0})
		crash(t, c)
		checkRecords(t, c)
		ends(t, c, end(no, 0, true))
		silent(t, c, end((no+1)%api.Shops, 0, true))
	}
}

// run is what one clerk is asked, one behind the other, by mail that comes twice, late, and in vain.
func run() []func(*testing.T, *clerk.Clerk) {
	say := func(deal, counter, delta int, yes bool) func(*testing.T, *clerk.Clerk) {
		return func(t *testing.T, c *clerk.Clerk) { t.Helper(); says(t, c, ask(1, deal, counter, delta), yes) }
	}
	over := func(deal int, done bool) func(*testing.T, *clerk.Clerk) {
		return func(t *testing.T, c *clerk.Clerk) { t.Helper(); ends(t, c, end(1, deal, done)) }
	}
	nothing := func(m api.Mail) func(*testing.T, *clerk.Clerk) {
		return func(t *testing.T, c *clerk.Clerk) { t.Helper(); silent(t, c, m) }
	}
	return []func(*testing.T, *clerk.Clerk){
		say(4, 2, -6, true), say(0, 2, -5, false), say(0, 3, 80, true), say(4, 2, -6, true),
		say(4, 3, 1, false), say(4, 2, -5, false), nothing(ask(0, 5, 0, 1)),
		over(4, true), say(4, 2, -6, false), over(4, true), nothing(end(1, 4, false)),
		say(1, 2, -4, true), nothing(end(2, 1, true)), over(0, false), say(2, 3, 80, true),
		say(1, 3, -20, true), say(2, 2, 96, true), over(lastDeal, false), over(2, true),
		over(1, true), over(1, true), nothing(end(1, -1, true)), say(3, 4, 1, false),
	}
}

func checkEndOfRun(t *testing.T, c *clerk.Clerk) {
	t.Helper()
	checkCounts(t, c, [3]int{96, 0, 0}, [3]int{80, 0, 0})
	checkHolds(t, c)
	checkRecords(t, c,
		held(4, 2, -6), held(0, 3, 80), ended(4, true), held(1, 2, -4), ended(0, false), held(2, 3, 80),
		held(1, 3, -20), held(2, 2, 96), ended(lastDeal, false), ended(2, true), ended(1, true))
	for deal, is := range []struct{ over, done bool }{{true, false}, {true, true}, {true, true}, {}, {true, true}, {}, {}, {true, false}} {
		checkOver(t, c, deal, is.over, is.done)
	}
}

// A crash behind each step, in one and the same run: all is answered as if none had been.
func TestCrashBehindEachStep(t *testing.T) {
	c := must(t, 1, api.World{2: 10, 3: 20})
	for _, step := range run() {
		step(t, c)
		crash(t, c)
	}
	checkEndOfRun(t, c)
}

// One crash alone, at each place of the run; and, at the last one, none.
func TestCrashOnce(t *testing.T) {
	all := run()
	for at := range len(all) + 1 {
		c := must(t, 1, api.World{2: 10, 3: 20})
		for i, step := range all {
			if i == at {
				c.Crash()
			}
			step(t, c)
		}
		checkEndOfRun(t, c)
	}
}

// What was held, and what was over, is answered so behind a crash: each is asked for again, and for something else.
func TestCrashForgetsNothingThatWasAnswered(t *testing.T) {
	c := must(t, 0, api.World{10, 20})
	says(t, c, ask(0, 3, 0, -7), true)
	says(t, c, ask(0, 3, 1, 80), true)
	ends(t, c, end(0, 5, true))
	ends(t, c, end(0, 6, false))
	crash(t, c)
	checkCounts(t, c, [3]int{10, 7, 0}, [3]int{20, 0, 80})
	checkHolds(t, c, [3]int{3, 0, -7}, [3]int{3, 1, 80})
	again(t, c, ask(0, 3, 0, -7))
	again(t, c, end(0, 5, true))
	again(t, c, end(0, 6, false))
	says(t, c, ask(0, 3, 0, -6), false)
	says(t, c, ask(0, 1, 0, -4), false)
	says(t, c, ask(0, 1, 1, 1), false)
	says(t, c, ask(0, 5, 0, -1), false)
	says(t, c, ask(0, 6, 0, -1), false)
	silent(t, c, end(0, 5, false))
	silent(t, c, end(0, 6, true))
	ends(t, c, end(0, 3, true))
	checkCounts(t, c, [3]int{3, 0, 0}, [3]int{100, 0, 0})
	checkRecords(t, c, held(3, 0, -7), held(3, 1, 80), ended(5, true), ended(6, false), ended(3, true))
}
