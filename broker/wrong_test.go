package broker_test

import (
	"slices"
	"testing"

	"handsel/api"
	"handsel/broker"
)

// full is a broker with as many deals as there may be, some of them decided.
func full(t *testing.T) *broker.Broker {
	t.Helper()
	b := broker.New()
	for n := range api.MaxDeals {
		begin(t, b, want(0, -1), want(4, n+1))
	}
	do(t, b, 5)
	do(t, b, 2)
	quit(t, b, 0)
	b.Hear(over(5, 2))
	b.Hear(say(7, want(0, -1), true))
	return b
}

// Wants that plan.Check has a code of: it is told, though there are as many deals as there may be.
func TestBeginOfWrongWants(t *testing.T) {
	cases := []struct {
		wants []api.Want
		code  int
	}{
		{nil, api.ErrForm},
		{[]api.Want{}, api.ErrForm},
		{[]api.Want{want(0, 1), want(1, 1), want(2, 1), want(3, 1), want(4, 1)}, api.ErrMany},
		{slices.Repeat([]api.Want{want(-1, 0)}, 100), api.ErrMany},
		{[]api.Want{want(-1, 1)}, api.ErrRange},
		{[]api.Want{want(api.Counters, 1)}, api.ErrRange},
		{[]api.Want{want(0, 1), want(1, 1), want(2, 1), want(-1, 1)}, api.ErrRange},
		{[]api.Want{want(0, 0)}, api.ErrForm},
		{[]api.Want{want(0, most+1)}, api.ErrRange},
		{[]api.Want{want(0, -most-1)}, api.ErrRange},
		{[]api.Want{want(3, 1), want(3, 1)}, api.ErrTwice},
		{[]api.Want{want(3, 1), want(2, 5), want(0, 7), want(3, -1)}, api.ErrTwice},
		// The first that is wrong is told.
		{[]api.Want{want(3, 1), want(3, 1), want(9, 1)}, api.ErrTwice},
		{[]api.Want{want(3, 1), want(9, 1), want(3, 1)}, api.ErrRange},
		{[]api.Want{want(3, 1), want(3, 0)}, api.ErrForm},
	}
	for _, n := range farNumbers() {
		cases = append(cases, []struct {
			wants []api.Want
			code  int
		}{
			{[]api.Want{want(n, 1)}, api.ErrRange},
			{[]api.Want{want(0, n)}, api.ErrRange},
			{[]api.Want{want(0, 1), want(n, n)}, api.ErrRange},
		}...)
	}
	for _, x := range cases {
		refuses(t, broker.New(), x.wants, x.code)
		refuses(t, full(t), x.wants, x.code)
		b := with(t, want(0, -1))
		refuses(t, b, x.wants, x.code)
		if n := begin(t, b, want(0, -1)); n != 1 {
			t.Errorf("behind Begin(%v): %d", x.wants, n)
		}
	}
}

// A say of what is none of the deal's wants, or from another shop, is nothing, with Yes and without.
func TestSayOfWhatWasNotAsked(t *testing.T) {
	l := []api.Want{want(1, 7), want(2, -7), want(5, 3)}
	b := with(t, l...)
	b.Hear(say(0, l[1], true))
	for _, yes := range []bool{true, false} {
		for _, w := range l {
			for counter := -1; counter <= api.Counters; counter++ {
				if counter != w.Counter {
					nothing(t, b, say(0, want(counter, w.Delta), yes))
				}
				for no := -1; no <= api.Shops; no++ {
					for _, delta := range []int{w.Delta - 1, w.Delta + 1, -w.Delta, 0, most + 1, w.Delta + 1<<32} {
						if w := want(counter, delta); !slices.Contains(l, w) {
							nothing(t, b, api.Mail{Kind: api.MSay, Shop: no, Want: w, Yes: yes})
						}
					}
				}
			}
			for _, no := range append(farNumbers(), -1, 0, 1, 2, api.Shops, w.Counter, w.Counter/2+1<<32) {
				if no != w.Counter/api.PerShop {
					nothing(t, b, api.Mail{Kind: api.MSay, Shop: no, Want: w, Yes: yes})
				}
			}
		}
	}
	checkState(t, b, 0, api.Open)
	b.Hear(say(0, l[0], true))
	b.Hear(say(0, l[2], true))
	checkDone(t, b, 0)
}

// A say of another deal's want is nothing.
func TestSayOfAnotherDealsWant(t *testing.T) {
	b := with(t, want(0, -1))
	begin(t, b, want(1, 1))
	for _, yes := range []bool{true, false} {
		nothing(t, b, say(0, want(1, 1), yes), say(1, want(0, -1), yes))
	}
	do(t, b, 1)
	checkState(t, b, 0, api.Open)
}

func TestSayToNoDeal(t *testing.T) {
	w := want(0, -1)
	b := broker.New()
	for n := range api.MaxDeals + 1 {
		for _, none := range append(farNumbers(), -1, -2, n, n+1, api.MaxDeals, api.MaxDeals+1, n-1+1<<32) {
			if none >= 0 && none < n {
				continue
			}
			nothing(t, b, say(none, w, true), say(none, w, false), over(none, 0))
		}
		if n < api.MaxDeals {
			begin(t, b, w)
		}
	}
	// What came ahead of a deal is not known to it.
	for n := range api.MaxDeals {
		checkState(t, b, n, api.Open)
	}
}

// Of the first and the last deal, and of those between, a say is heard by that one alone.
func TestSayToEachDeal(t *testing.T) {
	w := want(3, 9)
	for n := range api.MaxDeals {
		for _, yes := range []bool{true, false} {
			b := broker.New()
			for range api.MaxDeals {
				begin(t, b, w)
			}
			b.Hear(say(n, w, yes))
			for i := range api.MaxDeals {
				state := api.Open
				if i == n && yes {
					state = api.Done
				} else if i == n {
					state = api.Not
				}
				checkState(t, b, i, state)
			}
		}
	}
}

// An over that comes while the deal is open is nothing, and is not known when it is decided.
func TestOverOfAnOpenDeal(t *testing.T) {
	for _, l := range someWants() {
		for _, done := range []bool{true, false} {
			b := with(t, l...)
			for no := range api.Shops {
				nothing(t, b, over(0, no), api.Mail{Kind: api.MOver, Shop: no, Want: l[0], Yes: true})
			}
			if done {
				do(t, b, 0)
			} else {
				quit(t, b, 0)
			}
			checkDue(t, b, ends(0, l, done)...)
		}
	}
}

func TestOverFromAnotherShop(t *testing.T) {
	for _, l := range someWants() {
		for _, done := range []bool{true, false} {
			b := with(t, l...)
			if done {
				do(t, b, 0)
			} else {
				quit(t, b, 0)
			}
			for _, no := range append(farNumbers(), -2, -1, 0, 1, 2, api.Shops, api.Shops+1, 1<<32, lastShop+1<<32) {
				if !slices.Contains(shopsOf(l), no) {
					nothing(t, b, over(0, no))
				}
			}
			checkDue(t, b, ends(0, l, done)...)
		}
	}
}

// Kinds that none hears, though the deal, the shop and the want may be.
func TestMailOfOtherKinds(t *testing.T) {
	kinds := []int{api.MAsk, api.MEnd, 0, -1, 5, 6, -api.MSay, -api.MEnd, -api.MOver, api.MSay + 1<<32, api.MOver + 1<<32}
	b := full(t)
	for _, kind := range append(kinds, farNumbers()...) {
		for deal := -1; deal <= api.MaxDeals; deal++ {
			for no := range api.Shops {
				for _, w := range []api.Want{{}, want(0, -1), want(4, deal+1)} {
					for _, yes := range []bool{true, false} {
						nothing(t, b, api.Mail{Kind: kind, Deal: deal, Shop: no, Want: w, Yes: yes})
					}
				}
			}
		}
	}
}

// What is due is no answer: handed in again, it is nothing.
func TestMailOfItsOwn(t *testing.T) {
	b := full(t)
	nothing(t, b, b.Due()...)
}

// The edges of what an int can have, in each place of mail.
func TestMailOfFarNumbers(t *testing.T) {
	b := full(t)
	for _, n := range farNumbers() {
		for _, yes := range []bool{true, false} {
			// The deal 1 is open and asks for both of its wants, the deal 2 is over nowhere yet.
			for _, m := range []api.Mail{say(1, want(0, -1), yes), say(1, want(4, 2), yes), over(2, 0), over(2, 2)} {
				changes := []func(m *api.Mail){
					func(m *api.Mail) { m.Kind = n },
					func(m *api.Mail) { m.Deal = n },
					func(m *api.Mail) { m.Shop = n },
					func(m *api.Mail) { m.Deal, m.Shop = n, n },
					func(m *api.Mail) { m.Deal, m.Shop, m.Want = n, n, want(n, n) },
					func(m *api.Mail) { m.Kind, m.Deal, m.Shop, m.Want = n, n, n, want(n, n) },
				}
				if m.Kind == api.MSay {
					changes = append(changes,
						func(m *api.Mail) { m.Want.Counter = n },
						func(m *api.Mail) { m.Want.Delta = n },
						func(m *api.Mail) { m.Want = want(n, n) })
				}
				for _, change := range changes {
					far := m
					change(&far)
					nothing(t, b, far)
				}
			}
		}
	}
	do(t, b, 1)
}

// Wants that were handed in are the asker's: changed later, they change nothing in the broker, and it changes nothing in them.
func TestWantsThatWereHandedIn(t *testing.T) {
	room := []api.Want{want(5, 3), want(0, -2), want(3, 9), want(3, 9)}
	was := slices.Clone(room)
	b := with(t, room[:2]...)
	refuses(t, b, room, api.ErrTwice)
	if !slices.Equal(room, was) {
		t.Errorf("handed in: %v, was %v", room, was)
	}
	before := told(b)
	clear(room)
	if got := told(b); got != before {
		t.Errorf("%s, was %s", got, before)
	}
	nothing(t, b, say(0, want(0, 0), true))
	for _, w := range was[:2] {
		b.Hear(say(0, w, true))
	}
	checkDone(t, b, 0)
}

// Lists that were answered are the asker's: changed, or made longer, they change nothing in the broker.
func TestAnswersAreNewMemory(t *testing.T) {
	b := full(t)
	before := told(b)
	for range 2 {
		done, due := b.Done(), b.Due()
		clear(done[:cap(done)])
		clear(due[:cap(due)])
		_ = append(b.Done()[:1], 7)
		_ = append(b.Due()[:1], api.Mail{})
		for n := range api.MaxDeals {
			l := b.Wants(n)
			clear(l[:cap(l)])
			_ = append(b.Wants(n)[:1], want(3, 3))
		}
		if got := told(b); got != before {
			t.Fatalf("%s, was %s", got, before)
		}
	}
	b.Crash()
	checkDone(t, b, 5, 2)
	checkWants(t, b, 7, want(0, -1), want(4, 8))
}

// A list that was answered stays as it is, whatever is asked then.
func TestAnswersStay(t *testing.T) {
	b := with(t, want(0, -1), want(4, 1))
	begin(t, b, want(2, 5))
	do(t, b, 1)
	done, due, wants := b.Done(), b.Due(), b.Wants(0)
	wasDone, wasDue, wasWants := slices.Clone(done), slices.Clone(due), slices.Clone(wants)
	do(t, b, 0)
	b.Hear(over(0, 0))
	b.Crash()
	begin(t, b, want(3, 3))
	b.Due()
	if !slices.Equal(done, wasDone) || !slices.Equal(due, wasDue) || !slices.Equal(wants, wasWants) {
		t.Errorf("%v %v %v, was %v %v %v", done, due, wants, wasDone, wasDue, wasWants)
	}
}
