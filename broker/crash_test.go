package broker_test

import (
	"testing"

	"handsel/api"
	"handsel/broker"
)

// A deal that is open, with nothing held, with some, and with all but one: it is not done, and an end is due to each of its shops.
func TestCrashOfAnOpenDeal(t *testing.T) {
	for _, l := range someWants() {
		for held := range l {
			b := with(t, l...)
			for _, w := range l[:held] {
				b.Hear(say(0, w, true))
			}
			b.Crash()
			checkState(t, b, 0, api.Not)
			checkDone(t, b)
			checkWants(t, b, 0, l...)
			checkDue(t, b, ends(0, l, false)...)
			cantQuit(t, b, 0, api.ErrOver)
			// What was missing comes late: it is not done any more.
			for _, w := range l {
				nothing(t, b, say(0, w, true))
			}
		}
	}
}

// Where a deal was over is forgotten, and heard anew.
func TestCrashOfADecidedDeal(t *testing.T) {
	for _, l := range someWants() {
		for _, done := range []bool{true, false} {
			for answered := range len(shopsOf(l)) + 1 {
				b := with(t, l...)
				if done {
					do(t, b, 0)
				} else {
					quit(t, b, 0)
				}
				for _, no := range shopsOf(l)[:answered] {
					b.Hear(over(0, no))
				}
				for range 2 {
					b.Crash()
					checkDue(t, b, ends(0, l, done)...)
				}
				for _, no := range shopsOf(l) {
					b.Hear(over(0, no))
				}
				checkDue(t, b)
			}
		}
	}
}

// many is a broker with open, done and quit deals, some of them over somewhere.
func many(t *testing.T) *broker.Broker {
	t.Helper()
	b := broker.New()
	for n, l := range someWants()[:api.MaxDeals-1] {
		begin(t, b, l...)
		b.Hear(say(n, l[0], true))
	}
	// The deals 0 and 1 have one want each, and are done by now.
	do(t, b, 5)
	do(t, b, 2)
	quit(t, b, 3)
	for _, n := range []int{1, 2, 3, 5} {
		b.Hear(over(n, shopsOf(b.Wants(n))[0]))
	}
	return b
}

// Behind a crash no deal is open, Done is as it was, and of each deal an end to each of its shops is due.
func TestCrashOfMany(t *testing.T) {
	b, wants := many(t), someWants()
	for range 3 {
		b.Crash()
		var due []api.Mail
		for n, state := range []int{api.Done, api.Done, api.Done, api.Not, api.Not, api.Done, api.Not} {
			checkState(t, b, n, state)
			checkWants(t, b, n, wants[n]...)
			due = append(due, ends(n, wants[n], state == api.Done)...)
		}
		checkDue(t, b, due...)
		checkDone(t, b, 0, 1, 5, 2)
		if b.Len() != api.MaxDeals-1 {
			t.Errorf("Len: %d", b.Len())
		}
	}
}

// A deal that begins behind a crash is as any other: its number is the next one, nothing of it is held, and when it is done it stands last.
func TestBeginBehindACrash(t *testing.T) {
	b := many(t)
	b.Crash()
	n := begin(t, b, want(0, -1), want(5, 1))
	if n != api.MaxDeals-1 {
		t.Errorf("Begin: %d", n)
	}
	checkState(t, b, n, api.Open)
	b.Hear(say(n, want(5, 1), true))
	checkState(t, b, n, api.Open)
	b.Hear(say(n, want(0, -1), true))
	checkDone(t, b, 0, 1, 5, 2, n)
	refuses(t, b, []api.Want{want(0, 1)}, api.ErrFull)
	b.Crash()
	checkDone(t, b, 0, 1, 5, 2, n)
}
