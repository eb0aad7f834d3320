package town_test

import (
	"slices"
	"testing"

	"handsel/api"
	"handsel/town"
)

// run is a row of steps in which deals are done, can't be, and are quit, and mail is lost, doubled and late; none of them has a code.
func run() []api.Step {
	return []api.Step{
		begin(want(0, -20), want(3, 20)), begin(want(0, -40), want(5, 40)), tick(), deliver(0), double(0), deliver(1), deliver(-2),
		begin(want(1, 50), want(2, -50), want(4, 3)), tick(), deliver(7), deliver(3), lose(2), deliver(2), deliver(2), deliver(5),
		begin(want(3, 30), want(0, -1)), tick(), deliver(9), deliver(12), double(4), quit(3), deliver(0), deliver(0), deliver(6),
		tick(), deliver(11), deliver(1), lose(0), deliver(3), deliver(3), begin(want(5, 1), want(3, 7), want(1, -9), want(0, 9)),
		tick(), deliver(20), deliver(8), deliver(8), deliver(8), deliver(15), deliver(15), deliver(4), deliver(0), tick(), deliver(2),
	}
}

func TestRun(t *testing.T) {
	x := behind(t, even(), run()...)
	if len(x.Done()) == 0 || x.State(3) != api.Not || len(x.Mail()) == 0 {
		t.Fatalf("%s", told(x))
	}
	calms(t, x)
}

// Shops that forget, whenever and how often, change nothing at all.
func TestShopsThatForget(t *testing.T) {
	for s := range api.Shops {
		for at := range len(run()) + 1 {
			plain, x := behind(t, even(), run()[:at]...), behind(t, even(), run()[:at]...)
			idle(t, x, shopForgets(s))
			idle(t, x, shopForgets(s))
			for _, step := range run()[at:] {
				do(t, plain, step)
				do(t, x, step)
			}
			checkAlike(t, x, plain)
		}
	}
}

func TestShopsThatForgetBehindEachStep(t *testing.T) {
	plain, x := must(t, even()), must(t, even())
	for i, step := range run() {
		do(t, plain, step)
		do(t, x, step)
		for n := range i%4 + 1 {
			idle(t, x, shopForgets((i+n)%api.Shops))
		}
		if told(x) != told(plain) {
			t.Fatalf("behind %+v: %s, want %s", step, told(x), told(plain))
		}
	}
	checkAlike(t, x, plain)
}

// It is just that shop's clerk that forgets: what was held past its records, by none of the town's mail, is held no longer there.
func TestShopThatForgetsWhatIsNotWritten(t *testing.T) {
	for s := range api.Shops {
		x := must(t, even())
		for other := range api.Shops {
			if code := x.Clerk(other).Hold(0, want(other*api.PerShop, -7)); code != 0 {
				t.Fatalf("Hold: %d", code)
			}
		}
		do(t, x, shopForgets(s))
		for other := range api.Shops {
			if held := len(x.Clerk(other).Holds()) == 1; held != (other != s) {
				t.Errorf("shop %d forgot: shop %d holds %v", s, other, x.Clerk(other).Holds())
			}
		}
	}
}

// checkAlike: two towns tell the same, and so they do when they are calm.
func checkAlike(t *testing.T, x, plain *town.Town) {
	t.Helper()
	if told(x) != told(plain) {
		t.Fatalf("%s, want %s", told(x), told(plain))
	}
	if got, want := calms(t, x), calms(t, plain); got != want || told(x) != told(plain) {
		t.Fatalf("calm: %d, %s; want %d, %s", got, told(x), want, told(plain))
	}
}

// allEnds are those of all deals, to all of their shops, deal by deal.
func allEnds(x *town.Town) []api.Mail {
	var all []api.Mail
	for n := range x.Len() {
		var shops []int
		for _, w := range x.Wants(n) {
			shops = append(shops, w.Counter/api.PerShop)
		}
		slices.Sort(shops)
		for _, s := range slices.Compact(shops) {
			all = append(all, end(n, s, x.State(n) == api.Done))
		}
	}
	return all
}

// checkForgets lets the broker forget: the same deals are done, in the same order, none is open, all ends are due, and what is on its way and in the shops stays.
func checkForgets(t *testing.T, x *town.Town) {
	t.Helper()
	done, mail, world := x.Done(), x.Mail(), x.World()
	var shops [][]api.Record
	for s := range api.Shops {
		shops = append(shops, x.Clerk(s).Records())
	}
	do(t, x, brokerForgets())
	checkDone(t, x, done...)
	checkMail(t, x, mail...)
	checkWorld(t, x, world)
	for s := range api.Shops {
		if got := x.Clerk(s).Records(); !slices.Equal(got, shops[s]) {
			t.Errorf("shop %d: %+v, was %+v", s, got, shops[s])
		}
	}
	for n := range x.Len() {
		state := api.Not
		if slices.Contains(done, n) {
			state = api.Done
		}
		checkState(t, x, n, state)
	}
	if due := x.Due(); !slices.Equal(due, allEnds(x)) {
		t.Errorf("Due: %+v, want %+v", due, allEnds(x))
	}
}

// The broker forgets at each place of the run: what was done stays so, and nothing else is done.
func TestBrokerThatForgets(t *testing.T) {
	for at := range len(run()) + 1 {
		x := behind(t, even(), run()[:at]...)
		done := x.Done()
		serial, _ := x.Serial()
		checkForgets(t, x)
		idle(t, x, brokerForgets())
		calms(t, x)
		checkDone(t, x, done...)
		checkWorld(t, x, serial)
		checkForgets(t, x)
		calms(t, x)
		checkDone(t, x, done...)
		checkWorld(t, x, serial)
	}
}

// A deal that begins behind it is as any other.
func TestBeginBehindABrokerThatForgets(t *testing.T) {
	x := behind(t, even(), begin(want(0, -20), want(3, 20)), begin(want(5, 1)), tick(), deliver(0), deliver(0), deliver(1), deliver(1))
	checkDone(t, x, 0)
	checkForgets(t, x)
	checkState(t, x, 1, api.Not)
	do(t, x, begin(want(0, -30), want(5, 50)), tick(), shopForgets(0), shopForgets(2))
	checkCalm(t, x, 1)
	checkDone(t, x, 0, 2)
	checkWorld(t, x, api.World{0, 50, 50, 70, 50, 100})
}

// A say that was on its way when the broker forgot comes in vain: the deal is not done, and is held nowhere.
func TestSayBehindABrokerThatForgets(t *testing.T) {
	x := behind(t, even(), begin(want(0, -20), want(3, 20)), tick(), deliver(0), deliver(0), brokerForgets())
	checkMail(t, x, say(0, want(0, -20), true), say(0, want(3, 20), true))
	checkCounts(t, x, [3]int{50, 20, 0}, [3]int{50, 0, 0}, [3]int{50, 0, 0}, [3]int{50, 0, 20})
	do(t, x, deliver(0), deliver(0))
	checkState(t, x, 0, api.Not)
	checkCalm(t, x, 1)
	checkDone(t, x)
	checkWorld(t, x, even())
}

// All forget, behind each step: no deal is left open, and yet those that were done ahead are done wholly.
func TestAllForget(t *testing.T) {
	for at := range len(run()) + 1 {
		x := behind(t, even(), run()[:at]...)
		done := x.Done()
		for range 3 {
			do(t, x, shopForgets(0), brokerForgets(), shopForgets(1), tick(), shopForgets(lastShop))
		}
		calms(t, x)
		checkDone(t, x, done...)
	}
}
