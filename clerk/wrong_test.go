package clerk_test

import (
	"slices"
	"testing"

	"handsel/api"
)

// Mail that its own shop would answer is nothing to all others.
func TestMailToAnotherShop(t *testing.T) {
	for no := range api.Shops {
		c := must(t, no, api.World{50, 50, 50, 50, 50, 50})
		says(t, c, ask(no, 1, 2*no, -7), true)
		ends(t, c, end(no, 2, true))
		for _, to := range append(farNumbers(), -1, 0, 1, 2, api.Shops, api.Shops+1, no+api.Shops, no-api.Shops) {
			if to == no {
				continue
			}
			for counter := range api.Counters {
				for deal := range api.MaxDeals {
					silent(t, c, ask(to, deal, counter, -7))
				}
			}
			for deal := range api.MaxDeals {
				silent(t, c, end(to, deal, true))
				silent(t, c, end(to, deal, false))
			}
			silent(t, c, api.Mail{Shop: to})
		}
		checkRecords(t, c, held(1, 2*no, -7), ended(2, true))
	}
}

// Kinds that none answers, though the deal, the shop and the want may be.
func TestMailOfOtherKinds(t *testing.T) {
	kinds := []int{api.MSay, api.MOver, 0, -1, 5, 6, -api.MAsk, -api.MSay, -api.MEnd, -api.MOver, api.MAsk + 1<<32, api.MEnd + 1<<32}
	for _, kind := range append(kinds, farNumbers()...) {
		c := busy(t)
		for deal := -1; deal <= api.MaxDeals; deal++ {
			for _, want := range []api.Want{{}, {Counter: 2, Delta: -6}, {Counter: 2, Delta: -1}, {Counter: 3, Delta: 80}} {
				for _, yes := range []bool{true, false} {
					silent(t, c, api.Mail{Kind: kind, Deal: deal, Shop: 1, Want: want, Yes: yes})
				}
			}
		}
	}
}

// What a clerk answered is no mail to it: handed in again, it is nothing.
func TestMailOfItsOwnAnswers(t *testing.T) {
	c := must(t, 1, api.World{2: 10, 3: 20})
	for _, m := range []api.Mail{ask(1, 4, 2, -6), ask(1, 5, 2, -6), end(1, 4, true)} {
		own, ok := c.Answer(m)
		if !ok {
			t.Fatalf("Answer(%+v): nothing", m)
		}
		silent(t, c, own)
	}
}

func TestMailOfNothing(t *testing.T) {
	for no := range api.Shops {
		silent(t, must(t, no, api.World{}), api.Mail{})
	}
}

// The edges of what an int can have, in each place of mail.
func TestMailOfFarNumbers(t *testing.T) {
	c := busy(t)
	for _, n := range farNumbers() {
		says(t, c, ask(1, n, 2, -1), false)
		says(t, c, ask(1, 1, n, -1), false)
		says(t, c, ask(1, 1, 2, n), false)
		says(t, c, ask(1, n, n, n), false)
		silent(t, c, ask(n, 1, 2, -1))
		silent(t, c, ask(n, n, n, n))
		for _, done := range []bool{true, false} {
			silent(t, c, end(1, n, done))
			silent(t, c, end(n, 1, done))
			silent(t, c, end(n, n, done))
			silent(t, c, api.Mail{Kind: n, Deal: n, Shop: n, Want: api.Want{Counter: n, Delta: n}, Yes: done})
			silent(t, c, api.Mail{Kind: n, Deal: n, Shop: 1, Want: api.Want{Counter: n, Delta: n}, Yes: done})
		}
	}
	says(t, c, ask(1, 1, 2, -4), true)
}

// What was answered is the asker's: changed, or made longer, it changes nothing in the clerk.
func TestAnswersAreNewMemory(t *testing.T) {
	c := busy(t)
	before := told(c)
	records, holds, counts := c.Records(), c.Holds(), c.Counts()
	_ = append(c.Records(), ended(3, true))
	_ = append(c.Holds(), api.Hold{Deal: 3, Counter: 2, Delta: 1})
	for _, l := range [][]api.Record{records, c.Records()[:1]} {
		clear(l[:cap(l)])
	}
	for _, l := range [][]api.Hold{holds, c.Holds()[:1]} {
		clear(l[:cap(l)])
	}
	counts[0].Value = 77
	if got := told(c); got != before {
		t.Fatalf("%s, was %s", got, before)
	}
	c.Crash()
	if got := told(c); got != before {
		t.Errorf("behind a crash: %s, was %s", got, before)
	}
	again(t, c, ask(1, 0, 2, -6))
}

// A list that was answered stays as it is, whatever is asked then.
func TestAnswersStay(t *testing.T) {
	c := busy(t)
	records, holds := c.Records(), c.Holds()
	wasRecords, wasHolds := slices.Clone(records), slices.Clone(holds)
	says(t, c, ask(1, 1, 2, -4), true)
	ends(t, c, end(1, 0, true))
	c.Crash()
	ends(t, c, end(1, 1, false))
	if !slices.Equal(records, wasRecords) || !slices.Equal(holds, wasHolds) {
		t.Errorf("%v %v, was %v %v", records, holds, wasRecords, wasHolds)
	}
}
