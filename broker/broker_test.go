package broker_test

import (
	"fmt"
	"math"
	"slices"
	"testing"

	"handsel/api"
	"handsel/broker"
)

const (
	most     = api.MaxValue
	lastShop = api.Shops - 1
	lastDeal = api.MaxDeals - 1
)

// farNumbers are the edges of what an int can have.
func farNumbers() []int {
	return []int{math.MinInt, math.MinInt + 1, math.MinInt / 2, math.MaxInt/2 + 1, math.MaxInt - 1, math.MaxInt}
}

func want(counter, delta int) api.Want {
	return api.Want{Counter: counter, Delta: delta}
}

// someWants are wants of deals: of one shop, of some and of all, one and as many as there may be, in their shops' order and otherwise.
func someWants() [][]api.Want {
	return [][]api.Want{
		{want(0, -1)},
		{want(5, most)},
		{want(2, 7), want(3, -7)},
		{want(3, -most), want(2, most)},
		{want(0, -1), want(4, 1)},
		{want(4, 1), want(2, -1), want(0, 5)},
		{want(1, 3), want(5, -3), want(0, 3)},
		{want(5, 3), want(0, -2), want(1, most), want(4, -most)},
		{want(2, 1), want(5, 1), want(3, 1), want(1, 1)},
	}
}

// say is a say of a want from the shop that has its counter.
func say(deal int, w api.Want, yes bool) api.Mail {
	return api.Mail{Kind: api.MSay, Deal: deal, Shop: w.Counter / api.PerShop, Want: w, Yes: yes}
}

func over(deal, shop int) api.Mail {
	return api.Mail{Kind: api.MOver, Deal: deal, Shop: shop}
}

func ask(deal int, w api.Want) api.Mail {
	return api.Mail{Kind: api.MAsk, Deal: deal, Shop: w.Counter / api.PerShop, Want: w}
}

// asks are of all wants, in order.
func asks(deal int, l []api.Want) []api.Mail {
	var all []api.Mail
	for _, w := range l {
		all = append(all, ask(deal, w))
	}
	return all
}

func end(deal, shop int, done bool) api.Mail {
	return api.Mail{Kind: api.MEnd, Deal: deal, Shop: shop, Yes: done}
}

// shopsOf are the shops of the wants' counters, rising, each once.
func shopsOf(l []api.Want) []int {
	var all []int
	for _, w := range l {
		all = append(all, w.Counter/api.PerShop)
	}
	slices.Sort(all)
	return slices.Compact(all)
}

// ends are to all shops of the wants, rising.
func ends(deal int, l []api.Want, done bool) []api.Mail {
	var all []api.Mail
	for _, no := range shopsOf(l) {
		all = append(all, end(deal, no, done))
	}
	return all
}

// told is all that a broker tells.
func told(b *broker.Broker) string {
	text := fmt.Sprint(b.Len(), b.Done(), b.Due())
	for n := -1; n <= b.Len(); n++ {
		text += fmt.Sprint(" ", b.State(n), b.Wants(n))
	}
	return text
}

// begin begins a deal, and looks whether it is the next one.
func begin(t *testing.T, b *broker.Broker, l ...api.Want) int {
	t.Helper()
	next := b.Len()
	n, code := b.Begin(l)
	if n != next || code != 0 {
		t.Fatalf("Begin(%v): %d %d, want %d", l, n, code, next)
	}
	return n
}

// with is a broker with one deal, the deal 0.
func with(t *testing.T, l ...api.Want) *broker.Broker {
	t.Helper()
	b := broker.New()
	begin(t, b, l...)
	return b
}

// do hears a yes of each want, so that the deal is done.
func do(t *testing.T, b *broker.Broker, n int) {
	t.Helper()
	for _, w := range b.Wants(n) {
		b.Hear(say(n, w, true))
	}
	checkState(t, b, n, api.Done)
}

func quit(t *testing.T, b *broker.Broker, n int) {
	t.Helper()
	if code := b.Quit(n); code != 0 {
		t.Errorf("Quit(%d): %d", n, code)
	}
	checkState(t, b, n, api.Not)
}

// nothing hears mail that is nothing: all stays as it was.
func nothing(t *testing.T, b *broker.Broker, all ...api.Mail) {
	t.Helper()
	before := told(b)
	for _, m := range all {
		b.Hear(m)
		if got := told(b); got != before {
			t.Fatalf("Hear(%+v): %s, was %s", m, got, before)
		}
	}
}

// refuses begins a deal that may not be: a code, no number, and all stays as it was.
func refuses(t *testing.T, b *broker.Broker, l []api.Want, code int) {
	t.Helper()
	before := told(b)
	if n, got := b.Begin(l); n != 0 || got != code {
		t.Errorf("Begin(%v): %d %d, want 0 %d", l, n, got, code)
	}
	if got := told(b); got != before {
		t.Errorf("Begin(%v): %s, was %s", l, got, before)
	}
}

// cantQuit quits what can't be quit: a code, and all stays as it was.
func cantQuit(t *testing.T, b *broker.Broker, n, code int) {
	t.Helper()
	before := told(b)
	if got := b.Quit(n); got != code {
		t.Errorf("Quit(%d): %d, want %d", n, got, code)
	}
	if got := told(b); got != before {
		t.Errorf("Quit(%d): %s, was %s", n, got, before)
	}
}

func checkState(t *testing.T, b *broker.Broker, n, state int) {
	t.Helper()
	if got := b.State(n); got != state {
		t.Errorf("State(%d): %d, want %d", n, got, state)
	}
}

func checkWants(t *testing.T, b *broker.Broker, n int, l ...api.Want) {
	t.Helper()
	if got := b.Wants(n); !slices.Equal(got, l) {
		t.Errorf("Wants(%d): %v, want %v", n, got, l)
	}
}

func checkDone(t *testing.T, b *broker.Broker, deals ...int) {
	t.Helper()
	if got := b.Done(); !slices.Equal(got, deals) {
		t.Errorf("Done: %v, want %v", got, deals)
	}
}

func checkDue(t *testing.T, b *broker.Broker, all ...api.Mail) {
	t.Helper()
	if got := b.Due(); !slices.Equal(got, all) {
		t.Errorf("Due: %+v, want %+v", got, all)
	}
}

// orders are all orders of the numbers below n.
func orders(n int) [][]int {
	if n == 0 {
		return [][]int{nil}
	}
	var all [][]int
	for _, o := range orders(n - 1) {
		for at := range n {
			all = append(all, slices.Insert(slices.Clone(o), at, n-1))
		}
	}
	return all
}

func TestNew(t *testing.T) {
	b := broker.New()
	if b == nil || b.Len() != 0 {
		t.Fatalf("New: %v", b)
	}
	for _, n := range append(farNumbers(), -1, 0, 1, lastDeal) {
		checkState(t, b, n, -1)
		checkWants(t, b, n)
		cantQuit(t, b, n, api.ErrNone)
	}
	checkDone(t, b)
	checkDue(t, b)
	b.Crash()
	nothing(t, b, api.Mail{}, say(0, want(0, 1), true), say(0, want(0, 1), false), over(0, 0))
	if b.Len() != 0 {
		t.Errorf("Len: %d", b.Len())
	}
}

func TestBrokersShareNothing(t *testing.T) {
	one, other := broker.New(), with(t, want(0, -1))
	before := told(other)
	begin(t, one, want(0, -1))
	do(t, one, 0)
	one.Hear(over(0, 0))
	begin(t, one, want(1, 1))
	one.Crash()
	if got := told(other); got != before {
		t.Errorf("%s, was %s", got, before)
	}
}

// As many deals as there may be, each open, with its own wants; and one more.
func TestBegin(t *testing.T) {
	b, wants := broker.New(), someWants()
	var due []api.Mail
	for n := range api.MaxDeals {
		if got := begin(t, b, wants[n]...); got != n || b.Len() != n+1 {
			t.Errorf("deal %d: %d, Len %d", n, got, b.Len())
		}
		due = append(due, asks(n, wants[n])...)
		for i := range n + 1 {
			checkState(t, b, i, api.Open)
			checkWants(t, b, i, wants[i]...)
		}
		checkState(t, b, n+1, -1)
		checkWants(t, b, n+1)
		checkDone(t, b)
		checkDue(t, b, due...)
	}
	for _, l := range wants {
		refuses(t, b, l, api.ErrFull)
	}
}

// There are as many deals, whatever became of them.
func TestBeginOfOneMoreBehindDecidedOnes(t *testing.T) {
	b := broker.New()
	for n := range api.MaxDeals {
		begin(t, b, want(0, 1))
		if n%2 == 0 {
			do(t, b, n)
		} else {
			quit(t, b, n)
		}
		b.Hear(over(n, 0))
	}
	checkDue(t, b)
	refuses(t, b, []api.Want{want(0, 1)}, api.ErrFull)
	b.Crash()
	refuses(t, b, []api.Want{want(0, 1)}, api.ErrFull)
}

// Two deals may want the same, and each has wants of its own.
func TestBeginOfTheSameWants(t *testing.T) {
	l := []api.Want{want(0, -20), want(4, 20)}
	b := with(t, l...)
	begin(t, b, l...)
	checkDue(t, b, append(asks(0, l), asks(1, l)...)...)
	b.Hear(say(1, l[0], true))
	checkDue(t, b, append(asks(0, l), ask(1, l[1]))...)
	b.Hear(say(1, l[1], true))
	checkState(t, b, 0, api.Open)
	checkState(t, b, 1, api.Done)
	checkDue(t, b, append(asks(0, l), ends(1, l, true)...)...)
}

// One want, as many as there may be, and one more; and none.
func TestBeginOfSoManyWants(t *testing.T) {
	all := []api.Want{want(0, 1), want(1, 1), want(2, 1), want(3, 1), want(4, 1), want(5, 1)}
	for n := range len(all) + 1 {
		b := broker.New()
		switch {
		case n == 0:
			refuses(t, b, all[:0], api.ErrForm)
			refuses(t, b, nil, api.ErrForm)
		case n > api.MaxWants:
			refuses(t, b, all[:n], api.ErrMany)
		default:
			begin(t, b, all[:n]...)
			checkWants(t, b, 0, all[:n]...)
			checkDue(t, b, asks(0, all[:n])...)
			do(t, b, 0)
			checkDue(t, b, ends(0, all[:n], true)...)
		}
	}
}

// The first and the last deal, and their neighbours that are none.
func TestStateAndWantsOfNoDeal(t *testing.T) {
	b := broker.New()
	for n := range api.MaxDeals {
		begin(t, b, want(n%api.Counters, n+1))
		for _, none := range append(farNumbers(), -1, -2, n+1, n+2, api.MaxDeals, api.MaxDeals+1, n+1<<32) {
			checkState(t, b, none, -1)
			checkWants(t, b, none)
		}
		checkState(t, b, 0, api.Open)
		checkState(t, b, n, api.Open)
		checkWants(t, b, 0, want(0, 1))
		checkWants(t, b, n, want(n%api.Counters, n+1))
	}
}

// All wants are said to be held, in whatever order: the deal is done with the last one.
func TestSayOfAll(t *testing.T) {
	for _, l := range someWants() {
		for _, order := range orders(len(l)) {
			b := with(t, l...)
			held := make([]bool, len(l))
			for _, at := range order {
				checkState(t, b, 0, api.Open)
				checkDone(t, b)
				b.Hear(say(0, l[at], true))
				held[at] = true
				var due []api.Mail
				for i, w := range l {
					if !held[i] {
						due = append(due, ask(0, w))
					}
				}
				if due != nil {
					checkDue(t, b, due...)
				}
			}
			checkState(t, b, 0, api.Done)
			checkDone(t, b, 0)
			checkDue(t, b, ends(0, l, true)...)
			checkWants(t, b, 0, l...)
		}
	}
}

// One want is said not to be held, first, between the others and last: the deal is not done, and stays so.
func TestSayOfNotOne(t *testing.T) {
	for _, l := range someWants() {
		for _, order := range orders(len(l)) {
			for not := range order {
				b := with(t, l...)
				for _, at := range order[:not] {
					b.Hear(say(0, l[at], true))
					checkState(t, b, 0, api.Open)
				}
				b.Hear(say(0, l[order[not]], false))
				checkState(t, b, 0, api.Not)
				checkDue(t, b, ends(0, l, false)...)
				for _, at := range order {
					nothing(t, b, say(0, l[at], true), say(0, l[at], false))
				}
				checkDone(t, b)
				checkWants(t, b, 0, l...)
			}
		}
	}
}

// A want that was held, and is then said not to be, is not: the deal is still open.
func TestSayNotOfWhatWasHeld(t *testing.T) {
	l := []api.Want{want(1, 3), want(2, -3)}
	for at := range l {
		b := with(t, l...)
		b.Hear(say(0, l[at], true))
		b.Hear(say(0, l[at], false))
		checkState(t, b, 0, api.Not)
		checkDue(t, b, ends(0, l, false)...)
		nothing(t, b, say(0, l[0], true), say(0, l[1], true))
	}
}

// A say that comes again changes nothing, and counts once.
func TestSayAgain(t *testing.T) {
	for _, l := range someWants() {
		b := with(t, l...)
		for i, w := range l {
			b.Hear(say(0, w, true))
			for _, ahead := range l[:i+1] {
				nothing(t, b, say(0, ahead, true), say(0, ahead, true), say(0, ahead, true), say(0, ahead, true))
			}
			state := api.Open
			if i == len(l)-1 {
				state = api.Done
			}
			checkState(t, b, 0, state)
		}
		checkDone(t, b, 0)
	}
}

func TestQuit(t *testing.T) {
	for _, l := range someWants() {
		for held := range l {
			b := with(t, l...)
			begin(t, b, want(0, 1))
			for _, w := range l[:held] {
				b.Hear(say(0, w, true))
			}
			quit(t, b, 0)
			cantQuit(t, b, 0, api.ErrOver)
			checkDone(t, b)
			checkDue(t, b, append(ends(0, l, false), ask(1, want(0, 1)))...)
			for _, w := range l {
				nothing(t, b, say(0, w, true), say(0, w, false))
			}
			checkState(t, b, 1, api.Open)
			checkWants(t, b, 0, l...)
		}
	}
}

func TestQuitOfWhatCantBe(t *testing.T) {
	b := broker.New()
	for n := range 3 {
		begin(t, b, want(n, 1))
	}
	do(t, b, 0)
	b.Hear(say(1, want(1, 1), false))
	cantQuit(t, b, 0, api.ErrOver)
	cantQuit(t, b, 1, api.ErrOver)
	for _, n := range append(farNumbers(), -1, -2, 3, 4, lastDeal, api.MaxDeals, 2+1<<32) {
		cantQuit(t, b, n, api.ErrNone)
	}
	quit(t, b, 2)
	cantQuit(t, b, 2, api.ErrOver)
	// All is over, and yet it is not none.
	for n := range 3 {
		b.Hear(over(n, n/api.PerShop))
	}
	checkDue(t, b)
	for n := range 3 {
		cantQuit(t, b, n, api.ErrOver)
	}
}

// Deals beside each other, decided in whatever order: Done has them as they were decided.
func TestDoneInTheOrderOfDeciding(t *testing.T) {
	for _, order := range orders(5) {
		b := broker.New()
		for n := range order {
			begin(t, b, want(n, -1), want(5, n+1))
		}
		// All but one want of each is held, in the order in which they began.
		for n := range order {
			b.Hear(say(n, want(n, -1), true))
		}
		var done []int
		for i, n := range order {
			switch i {
			case 1:
				b.Hear(say(n, want(5, n+1), false))
				checkState(t, b, n, api.Not)
			case 3:
				quit(t, b, n)
			default:
				b.Hear(say(n, want(5, n+1), true))
				checkState(t, b, n, api.Done)
				done = append(done, n)
			}
			checkDone(t, b, done...)
		}
	}
}

func TestDoneOfAllThatThereMayBe(t *testing.T) {
	b := broker.New()
	var done []int
	for range api.MaxDeals {
		begin(t, b, want(3, 1))
	}
	for n := lastDeal; n >= 0; n-- {
		do(t, b, n)
		done = append(done, n)
		checkDone(t, b, done...)
	}
	for n := range api.MaxDeals {
		nothing(t, b, say(n, want(3, 1), true), say(n, want(3, 1), false))
	}
	checkDone(t, b, done...)
}

// Deal by deal, open ones and others: those that are open in the order of their wants, the others by their shops.
func TestDueDealByDeal(t *testing.T) {
	l := []api.Want{want(5, 3), want(0, -2), want(1, 4), want(4, -9)}
	b := broker.New()
	for range 4 {
		begin(t, b, l...)
	}
	do(t, b, 2)
	quit(t, b, 0)
	b.Hear(say(3, l[1], true))
	b.Hear(say(1, l[3], true))
	b.Hear(over(0, 0))
	checkDue(t, b,
		end(0, 2, false),
		ask(1, l[0]), ask(1, l[1]), ask(1, l[2]),
		end(2, 0, true), end(2, 2, true),
		ask(3, l[0]), ask(3, l[2]), ask(3, l[3]))
}

// Due asks for nothing new: it tells the same till something is answered.
func TestDueAgain(t *testing.T) {
	b := with(t, want(5, 3), want(0, -2))
	begin(t, b, want(2, 1))
	do(t, b, 1)
	first := b.Due()
	for range 3 {
		checkDue(t, b, first...)
	}
}

// A deal that is decided is over in one shop behind the other, in whatever order, each once.
func TestOver(t *testing.T) {
	for _, l := range someWants() {
		shops := shopsOf(l)
		for _, order := range orders(len(shops)) {
			for _, done := range []bool{true, false} {
				b := with(t, l...)
				if done {
					do(t, b, 0)
				} else {
					quit(t, b, 0)
				}
				left := slices.Clone(shops)
				for _, at := range order {
					b.Hear(over(0, shops[at]))
					left = slices.DeleteFunc(left, func(no int) bool { return no == shops[at] })
					var due []api.Mail
					for _, no := range left {
						due = append(due, end(0, no, done))
					}
					checkDue(t, b, due...)
					nothing(t, b, over(0, shops[at]), over(0, shops[at]))
				}
				checkDue(t, b)
				checkWants(t, b, 0, l...)
			}
		}
	}
}

// Only its deal and its shop are looked for in an over; Want and Yes are nothing.
func TestOverWithWhateverElse(t *testing.T) {
	wants := []api.Want{{}, want(0, -1), want(4, 1), want(-1, 0), want(2, most+1)}
	for _, n := range farNumbers() {
		wants = append(wants, want(n, n))
	}
	for _, w := range wants {
		for _, yes := range []bool{true, false} {
			for _, done := range []bool{true, false} {
				b := with(t, want(0, -1), want(4, 1))
				if done {
					do(t, b, 0)
				} else {
					quit(t, b, 0)
				}
				b.Hear(api.Mail{Kind: api.MOver, Shop: 2, Want: w, Yes: yes})
				checkDue(t, b, end(0, 0, done))
			}
		}
	}
}

// Over in a shop is over there of its own deal alone.
func TestOverOfOneDealAmongOthers(t *testing.T) {
	l := []api.Want{want(0, 1), want(2, 1), want(4, 1)}
	for n := range api.MaxDeals {
		b := broker.New()
		var due []api.Mail
		for i := range api.MaxDeals {
			begin(t, b, l...)
			do(t, b, i)
			due = append(due, ends(i, l, true)...)
		}
		for no := range api.Shops {
			b.Hear(over(n, no))
			due = slices.DeleteFunc(due, func(m api.Mail) bool { return m == end(n, no, true) })
			checkDue(t, b, due...)
		}
	}
}

// What is decided is decided, whatever is heard, quit and forgotten.
func TestDecidedIsDecided(t *testing.T) {
	for _, l := range someWants() {
		for _, done := range []bool{true, false} {
			b := with(t, l...)
			state, deals := api.Not, []int(nil)
			if done {
				do(t, b, 0)
				state, deals = api.Done, []int{0}
			} else {
				quit(t, b, 0)
			}
			check := func() {
				t.Helper()
				checkState(t, b, 0, state)
				checkDone(t, b, deals...)
				checkWants(t, b, 0, l...)
			}
			for range 2 {
				for _, w := range l {
					nothing(t, b, say(0, w, true), say(0, w, false), say(0, w, true))
				}
				cantQuit(t, b, 0, api.ErrOver)
				for no := range api.Shops {
					b.Hear(over(0, no))
					check()
				}
				checkDue(t, b)
				b.Crash()
				check()
				checkDue(t, b, ends(0, l, done)...)
			}
		}
	}
}
