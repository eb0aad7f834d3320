package town_test

import (
	"slices"
	"testing"

	"handsel/api"
	"handsel/plan"
	"handsel/town"
)

// How often is sent: the asks, and the ends; less, if they are on their way already, or nothing is due.
func TestCalmTellsHowOftenItSent(t *testing.T) {
	l, vain := []api.Want{want(0, -20), want(3, 20)}, []api.Want{want(0, -51), want(3, 20)}
	cases := []struct {
		steps []api.Step
		sent  int
	}{
		{nil, 0},
		{[]api.Step{tick()}, 0},
		{[]api.Step{brokerForgets()}, 0},
		{[]api.Step{begin(l...)}, 2},
		{[]api.Step{begin(vain...)}, 2},
		{[]api.Step{begin(l...), begin(vain...), begin(l...)}, 2},
		{[]api.Step{begin(l...), tick()}, 1},
		{[]api.Step{begin(vain...), tick()}, 1},
		{[]api.Step{begin(l...), tick(), begin(l...)}, 2},
		// One ask is lost, and then both.
		{[]api.Step{begin(l...), tick(), lose(0)}, 2},
		{[]api.Step{begin(l...), tick(), lose(1)}, 2},
		{[]api.Step{begin(l...), tick(), lose(0), lose(0)}, 2},
		{[]api.Step{begin(vain...), tick(), lose(0)}, 2},
		{[]api.Step{begin(vain...), tick(), lose(1)}, 1},
		// A say is lost, and so is one of two that are the same.
		{[]api.Step{begin(l...), tick(), deliver(0), lose(1)}, 2},
		{[]api.Step{begin(l...), tick(), deliver(0), double(1), lose(1)}, 1},
		{[]api.Step{begin(l...), tick(), double(0), lose(0)}, 1},
		// Ends on their way, and one that is lost.
		{[]api.Step{begin(l...), quit(0)}, 1},
		{[]api.Step{begin(l...), quit(0), tick()}, 0},
		{[]api.Step{begin(l...), quit(0), tick(), lose(1)}, 1},
		{[]api.Step{begin(l...), quit(0), tick(), deliver(0), lose(1)}, 1},
		{[]api.Step{begin(l...), quit(0), tick(), deliver(0), deliver(0), deliver(0), deliver(0)}, 0},
		{[]api.Step{begin(l...), brokerForgets()}, 1},
		{[]api.Step{begin(l...), tick(), brokerForgets()}, 1},
	}
	for _, c := range cases {
		x := behind(t, even(), c.steps...)
		if got := calms(t, x); got != c.sent {
			t.Errorf("%+v: %d, want %d", c.steps, got, c.sent)
		}
	}
}

// Calm of a town that is calm sends nothing; behind a broker that forgot, the ends once more.
func TestCalmAgain(t *testing.T) {
	x := busy(t)
	checkCalm(t, x, 1)
	for range 3 {
		world := x.World()
		do(t, x, brokerForgets())
		checkCalm(t, x, 1)
		checkWorld(t, x, world)
		checkDone(t, x, 0, 2, 3)
	}
	do(t, x, begin(want(1, 5)))
	checkCalm(t, x, 2)
	checkDone(t, x, 0, 2, 3, 4)
}

// Calm lets the first mail come, each time: its deals are held as they were asked for.
func TestCalmGoesInOrder(t *testing.T) {
	x := behind(t, even(), begin(want(0, -30)), begin(want(0, -30)), begin(want(0, -20)), tick())
	checkCalm(t, x, 1)
	checkDone(t, x, 0, 2)
	x = behind(t, even(), begin(want(0, -30)), begin(want(0, -30)), begin(want(0, -20)), tick(), lose(0))
	checkCalm(t, x, 2)
	checkDone(t, x, 1, 2)
	checkState(t, x, 0, api.Not)
}

// As many deals as there may be, with as many wants, and as much mail.
func TestCalmOfAllThatThereMayBe(t *testing.T) {
	x := full(t)
	checkCalm(t, x, 1)
	checkDone(t, x, 0, 1, 2, 3, 4, 5, 6, 7)
	checkWorld(t, x, api.World{14, 14, 86, 50, 50, 86})
	x = full(t)
	do(t, x, tick(), tick())
	checkCalm(t, x, 1)
	checkDone(t, x, 0, 1, 2, 3, 4, 5, 6, 7)
	checkWorld(t, x, api.World{14, 14, 86, 50, 50, 86})
}

// Calm ends, too, when a deal is never over somewhere: a clerk was told otherwise, by none of the town's mail.
func TestCalmSendsNoMoreThanItMay(t *testing.T) {
	x := behind(t, even(), begin(want(0, -20), want(3, 20)), quit(0))
	x.Clerk(1).Answer(end(0, 1, true))
	for range 2 {
		if sent := x.Calm(); sent != 20 {
			t.Errorf("Calm: %d, want 20", sent)
		}
	}
}

// The deals are done one behind the other as they were decided, not as they began: here the first one takes what the second one brings.
func TestSerialAsDecided(t *testing.T) {
	x := behind(t, api.World{1: most}, begin(want(0, -10), want(1, 10)), begin(want(1, -10), want(0, 10)), tick())
	// The asks of the deal 1 come, their says, its ends, and then those of the deal 0.
	do(t, x, deliver(2), deliver(2), deliver(2), deliver(2))
	checkDone(t, x, 1)
	checkSerial(t, x, api.World{10, most - 10})
	do(t, x, tick(), deliver(4))
	checkWorld(t, x, api.World{10, most - 10})
	checkCalm(t, x, 1)
	checkDone(t, x, 1, 0)
	checkWorld(t, x, api.World{1: most})
}

// A deal that is said to be held, by none of the town's mail, when it can't be: no world comes of it, and the code of the first is told.
func TestSerialOfWhatCantBe(t *testing.T) {
	x := behind(t, even(), begin(want(5, 1)), begin(want(0, 51)), begin(want(0, -51)), begin(want(4, -51)))
	for _, n := range []int{0, 2, 1, 3} {
		x.Hear(say(n, x.Wants(n)[0], true))
	}
	checkDone(t, x, 0, 2, 1, 3)
	if w, code := x.Serial(); w != (api.World{}) || code != api.ErrShort {
		t.Errorf("Serial: %v %d", w, code)
	}
	x = behind(t, even(), begin(want(5, 1)), begin(want(0, 51)))
	for n := range 2 {
		x.Hear(say(n, x.Wants(n)[0], true))
	}
	if w, code := x.Serial(); w != (api.World{}) || code != api.ErrFull {
		t.Errorf("Serial: %v %d", w, code)
	}
}

// walk goes through all towns that come of the first steps and of so many that may follow, each once, and hands them on with what led there; it tells how many there are.
func walk(t *testing.T, w api.World, first []api.Step, length int, next func(*town.Town) []api.Step, look func(*town.Town, []api.Step)) int {
	t.Helper()
	seen := map[string]bool{}
	// The shortest ways come first, so that none of what may follow is left out.
	for ways := [][]api.Step{first}; len(ways) > 0 && !t.Failed(); ways = ways[1:] {
		steps := ways[0]
		x := must(t, w)
		for _, s := range steps {
			x.Step(s)
		}
		key := told(x)
		if seen[key] {
			continue
		}
		seen[key] = true
		if len(steps) < len(first)+length {
			for _, s := range next(x) {
				ways = append(ways, append(slices.Clip(steps), s))
			}
		}
		checkSound(t, x)
		look(x, steps)
	}
	return len(seen)
}

// anyMail lets any of the mail come.
func anyMail(x *town.Town) []api.Step {
	var all []api.Step
	for n := range x.Mail() {
		all = append(all, deliver(n))
	}
	return all
}

// Two deals beside each other, both of which can't be, whose mail comes in every order: just one of them is done.
func TestEveryOrderOfTwoDeals(t *testing.T) {
	first := []api.Step{begin(want(0, -20), want(3, 20)), begin(want(5, 40), want(0, -40)), tick()}
	ends := map[int]int{}
	walk(t, even(), first, 20, anyMail, func(x *town.Town, steps []api.Step) {
		calms(t, x)
		if len(x.Done()) == 1 {
			ends[x.Done()[0]]++
		}
		switch done := x.Done(); {
		case slices.Equal(done, []int{0}):
			checkWorld(t, x, api.World{30, 50, 50, 70, 50, 50})
		case slices.Equal(done, []int{1}):
			checkWorld(t, x, api.World{10, 50, 50, 50, 50, 90})
		default:
			t.Errorf("%+v: %v", steps, done)
		}
	})
	if len(ends) != 2 {
		t.Errorf("%v", ends)
	}
}

// Two deals that can both be are both done, in whatever order their mail comes, and in the order in which they were decided.
func TestEveryOrderOfTwoDealsThatCanBe(t *testing.T) {
	first := []api.Step{begin(want(0, -20), want(3, 20)), begin(want(3, 30), want(0, -30)), tick()}
	orders := map[int]int{}
	walk(t, even(), first, 20, anyMail, func(x *town.Town, steps []api.Step) {
		decided := x.Done()
		calms(t, x)
		done := x.Done()
		if len(done) != 2 || !slices.Equal(done[:len(decided)], decided) {
			t.Errorf("%+v: %v, was %v", steps, done, decided)
			return
		}
		checkWorld(t, x, api.World{0, 50, 50, 100, 50, 50})
		orders[done[0]]++
	})
	if len(orders) != 2 {
		t.Errorf("%v", orders)
	}
}

// Two deals of which each holds what the other one wants: one is done, or none, and never both.
func TestEveryOrderOfDealsInEachOthersWay(t *testing.T) {
	first := []api.Step{begin(want(0, -30), want(4, -30)), begin(want(4, -30), want(0, -30)), tick()}
	ends := [3]int{}
	walk(t, even(), first, 20, anyMail, func(x *town.Town, steps []api.Step) {
		calms(t, x)
		done := x.Done()
		if len(done) > 1 {
			t.Errorf("%+v: %v", steps, done)
			return
		}
		at := 2
		if len(done) == 1 {
			at = done[0]
		}
		checkWorld(t, x, []api.World{{20, 50, 50, 50, 20, 50}, {20, 50, 50, 50, 20, 50}, even()}[at])
		ends[at]++
	})
	if slices.Contains(ends[:], 0) {
		t.Errorf("%v", ends)
	}
}

// The ends of deals that were done and quit, in every order, with the answers between.
func TestEveryOrderOfEnds(t *testing.T) {
	first := []api.Step{
		begin(want(0, -20), want(3, 20)), begin(want(0, -30), want(5, 30)), tick(),
		deliver(0), deliver(0), deliver(0), deliver(1), deliver(1), quit(1), tick(),
	}
	towns := walk(t, even(), first, 20, anyMail, func(x *town.Town, steps []api.Step) {
		calms(t, x)
		checkDone(t, x, 0)
		checkState(t, x, 1, api.Not)
		checkWorld(t, x, api.World{30, 50, 50, 70, 50, 50})
	})
	if towns < 100 {
		t.Errorf("%d towns", towns)
	}
}

// anything lets mail come, be lost and doubled, sends what is due, quits what is open, and lets all forget.
func anything(x *town.Town) []api.Step {
	all := []api.Step{tick(), brokerForgets(), shopForgets(0), quit(0)}
	for n := range x.Mail() {
		all = append(all, deliver(n), lose(n), double(n))
	}
	return all
}

// All that can become of two deals in few steps: behind Calm each is done wholly, or not at all.
func TestAllThatCanBecomeOfTwoDeals(t *testing.T) {
	first := []api.Step{begin(want(0, -20), want(3, 20)), begin(want(0, -40)), tick()}
	walk(t, even(), first, 4, anything, func(x *town.Town, steps []api.Step) {
		before := x.Done()
		calms(t, x)
		w := even()
		for n := range x.Len() {
			if x.State(n) == api.Done {
				w, _ = plan.Apply(w, x.Wants(n))
			}
		}
		checkWorld(t, x, w)
		for _, n := range before {
			checkState(t, x, n, api.Done)
		}
		if t.Failed() {
			t.Errorf("behind %+v", steps)
		}
	})
}

// Late mail of deals that are over, in every order, changes nothing.
func TestLateMail(t *testing.T) {
	x := behind(t, even(), begin(want(0, -20), want(3, 20)), begin(want(0, -40), want(4, 1)), tick(), tick(), tick())
	// The first asks come, and all that follows, behind the later ones, which are left.
	for range 4 {
		do(t, x, deliver(0))
	}
	for range 4 {
		do(t, x, deliver(8))
	}
	checkDone(t, x, 0)
	checkState(t, x, 1, api.Not)
	do(t, x, tick())
	for range 4 {
		do(t, x, deliver(8))
	}
	for range 4 {
		do(t, x, deliver(8))
	}
	if due := x.Due(); len(due) != 0 {
		t.Fatalf("Due: %+v", due)
	}
	world := api.World{30, 50, 50, 70, 50, 50}
	checkWorld(t, x, world)
	for len(x.Mail()) > 0 {
		do(t, x, deliver(len(x.Mail())/2))
		checkWorld(t, x, world)
		checkStillBut(t, x)
	}
	checkCalm(t, x, 0)
	checkDone(t, x, 0)
}

// checkStillBut: nothing is held or due, but for mail that is on its way.
func checkStillBut(t *testing.T, x *town.Town) {
	t.Helper()
	for s := range api.Shops {
		if l := x.Clerk(s).Holds(); len(l) != 0 {
			t.Errorf("shop %d holds %v", s, l)
		}
	}
	if due := x.Due(); len(due) != 0 {
		t.Errorf("Due: %+v", due)
	}
}

// Deals that are quit ahead of the last say leave all counters as they were, wherever their mail is.
func TestQuitAheadOfDone(t *testing.T) {
	l := []api.Want{want(5, 50), want(0, -50), want(2, 1), want(4, -1)}
	for _, ticks := range []int{1, 2} {
		for comes := range 2 * len(l) {
			for _, at := range []int{0, -1, 3} {
				x := behind(t, even(), begin(l...))
				do(t, x, slices.Repeat([]api.Step{tick()}, ticks)...)
				for range comes {
					do(t, x, deliver(at))
				}
				if x.State(0) != api.Open {
					continue
				}
				do(t, x, quit(0))
				checkWorld(t, x, even())
				calms(t, x)
				checkState(t, x, 0, api.Not)
				checkDone(t, x)
				checkWorld(t, x, even())
				checkCounts(t, x, [3]int{50, 0, 0}, [3]int{50, 0, 0}, [3]int{50, 0, 0}, [3]int{50, 0, 0}, [3]int{50, 0, 0}, [3]int{50, 0, 0})
			}
		}
	}
}
