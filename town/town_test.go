package town_test

import (
	"fmt"
	"math"
	"slices"
	"testing"

	"handsel/api"
	"handsel/count"
	"handsel/town"
)

const (
	most     = api.MaxValue
	lastShop = api.Shops - 1
	lastDeal = api.MaxDeals - 1
)

// farNumbers are the edges of what an int can have.
func farNumbers() []int {
	return []int{math.MinInt, math.MinInt + 1, math.MinInt / 2, math.MaxInt/2 + 1, math.MaxInt - 1, math.MaxInt}
}

func want(counter, delta int) api.Want {
	return api.Want{Counter: counter, Delta: delta}
}

// even is a world of which each counter has 50.
func even() api.World {
	return api.World{50, 50, 50, 50, 50, 50}
}

func begin(l ...api.Want) api.Step { return api.Step{Kind: api.SBegin, Wants: l} }
func tick() api.Step               { return api.Step{Kind: api.STick} }
func deliver(n int) api.Step       { return api.Step{Kind: api.SDeliver, N: n} }
func lose(n int) api.Step          { return api.Step{Kind: api.SLose, N: n} }
func double(n int) api.Step        { return api.Step{Kind: api.SDouble, N: n} }
func quit(n int) api.Step          { return api.Step{Kind: api.SQuit, N: n} }
func shopForgets(s int) api.Step   { return api.Step{Kind: api.SShop, N: s} }
func brokerForgets() api.Step      { return api.Step{Kind: api.SBroker} }

func ask(deal int, w api.Want) api.Mail {
	return api.Mail{Kind: api.MAsk, Deal: deal, Shop: w.Counter / api.PerShop, Want: w}
}

func say(deal int, w api.Want, yes bool) api.Mail {
	return api.Mail{Kind: api.MSay, Deal: deal, Shop: w.Counter / api.PerShop, Want: w, Yes: yes}
}

func end(deal, shop int, done bool) api.Mail {
	return api.Mail{Kind: api.MEnd, Deal: deal, Shop: shop, Yes: done}
}

func over(deal, shop int, done bool) api.Mail {
	return api.Mail{Kind: api.MOver, Deal: deal, Shop: shop, Yes: done}
}

// told is all that a town tells.
func told(x *town.Town) string {
	world, code := x.Serial()
	text := fmt.Sprint(x.Len(), x.Done(), x.Due(), x.Mail(), x.World(), world, code)
	for n := -1; n <= x.Len(); n++ {
		text += fmt.Sprint(" ", x.State(n), x.Wants(n))
	}
	for s := range api.Shops {
		c := x.Clerk(s)
		text += fmt.Sprint(" ", c.Counts(), c.Holds(), c.Records())
		for deal := range api.MaxDeals {
			over, done := c.Over(deal)
			text += fmt.Sprint(" ", over, done)
		}
	}
	return text
}

func must(t *testing.T, w api.World) *town.Town {
	t.Helper()
	x := town.New(w)
	if x == nil {
		t.Fatalf("New(%v): nil", w)
	}
	return x
}

// behind is a town behind steps that have no code.
func behind(t *testing.T, w api.World, steps ...api.Step) *town.Town {
	t.Helper()
	x := must(t, w)
	do(t, x, steps...)
	return x
}

// do does steps that have no code, and looks behind each whether all is as it may be.
func do(t *testing.T, x *town.Town, steps ...api.Step) {
	t.Helper()
	for i, s := range steps {
		if code := x.Step(s); code != 0 {
			t.Fatalf("Step(%+v) behind %+v: %d", s, steps[:i], code)
		}
		checkSound(t, x)
	}
}

// refuses does a step that has a code, and changes nothing.
func refuses(t *testing.T, x *town.Town, s api.Step, code int) {
	t.Helper()
	before := told(x)
	if got := x.Step(s); got != code {
		t.Errorf("Step(%+v): %d, want %d", s, got, code)
	}
	if got := told(x); got != before {
		t.Errorf("Step(%+v): %s, was %s", s, got, before)
	}
}

// idle does a step that has no code, and yet changes nothing.
func idle(t *testing.T, x *town.Town, s api.Step) {
	t.Helper()
	refuses(t, x, s, 0)
}

// checkSound: each counter is from 0 to MaxValue, whatever of what is held is done, and what was done could have been done one behind the other.
func checkSound(t *testing.T, x *town.Town) {
	t.Helper()
	world := x.World()
	for s := range api.Shops {
		for i, c := range x.Clerk(s).Counts() {
			if code := count.Check(c); code != 0 || count.Low(c) < 0 || count.High(c) > most {
				t.Fatalf("shop %d: %+v: %d", s, c, code)
			}
			if got := world[s*api.PerShop+i]; got != c.Value {
				t.Fatalf("World: %v, but shop %d has %+v", world, s, c)
			}
		}
	}
	if w, code := x.Serial(); code != 0 {
		t.Fatalf("Serial: %v %d", w, code)
	}
}

// checkStill: no deal is open, nothing is held or due, no mail is on its way, and the world is what the deals make of it one behind the other.
func checkStill(t *testing.T, x *town.Town) {
	t.Helper()
	checkSound(t, x)
	for n := range x.Len() {
		if state := x.State(n); state != api.Done && state != api.Not {
			t.Errorf("deal %d: %d", n, state)
		}
	}
	for s := range api.Shops {
		if l := x.Clerk(s).Holds(); len(l) != 0 {
			t.Errorf("shop %d holds %v", s, l)
		}
	}
	if due, mail := x.Due(), x.Mail(); len(due) != 0 || len(mail) != 0 {
		t.Errorf("due: %+v, mail: %+v", due, mail)
	}
	if w, _ := x.Serial(); x.World() != w {
		t.Errorf("World: %v, Serial: %v", x.World(), w)
	}
}

// calms lets a town calm, and looks whether it is still from then on.
func calms(t *testing.T, x *town.Town) int {
	t.Helper()
	done := x.Done()
	sent := x.Calm()
	checkStill(t, x)
	if got := x.Done(); len(got) < len(done) || !slices.Equal(got[:len(done)], done) {
		t.Errorf("Done: %v, was %v", got, done)
	}
	before := told(x)
	for range 2 {
		if n := x.Calm(); n != 0 {
			t.Errorf("Calm behind Calm: %d", n)
		}
		if got := told(x); got != before {
			t.Errorf("Calm behind Calm: %s, was %s", got, before)
		}
	}
	return sent
}

// checkCalm: Calm sends so often.
func checkCalm(t *testing.T, x *town.Town, sent int) {
	t.Helper()
	if got := calms(t, x); got != sent {
		t.Errorf("Calm: %d, want %d", got, sent)
	}
}

func checkMail(t *testing.T, x *town.Town, all ...api.Mail) {
	t.Helper()
	if got := x.Mail(); !slices.Equal(got, all) {
		t.Fatalf("Mail: %+v, want %+v", got, all)
	}
}

func checkDone(t *testing.T, x *town.Town, deals ...int) {
	t.Helper()
	if got := x.Done(); !slices.Equal(got, deals) {
		t.Errorf("Done: %v, want %v", got, deals)
	}
}

func checkState(t *testing.T, x *town.Town, n, state int) {
	t.Helper()
	if got := x.State(n); got != state {
		t.Errorf("State(%d): %d, want %d", n, got, state)
	}
}

func checkWorld(t *testing.T, x *town.Town, w api.World) {
	t.Helper()
	if got := x.World(); got != w {
		t.Errorf("World: %v, want %v", got, w)
	}
}

func checkSerial(t *testing.T, x *town.Town, w api.World) {
	t.Helper()
	if got, code := x.Serial(); got != w || code != 0 {
		t.Errorf("Serial: %v %d, want %v", got, code, w)
	}
}

// checkCounts: all counters, each as Value, Out, In.
func checkCounts(t *testing.T, x *town.Town, all ...[3]int) {
	t.Helper()
	for n, c := range all {
		want := api.Count{Value: c[0], Out: c[1], In: c[2]}
		if got := x.Clerk(n / api.PerShop).Counts()[n%api.PerShop]; got != want {
			t.Errorf("counter %d: %+v, want %+v", n, got, want)
		}
	}
}

// full has as many deals as there may be, each with as many wants, and all that is due on its way.
func full(t *testing.T) *town.Town {
	t.Helper()
	x := must(t, even())
	for n := range api.MaxDeals {
		do(t, x, begin(want(5, n+1), want(1, -1-n), want(2, 1+n), want(0, -1-n)))
	}
	do(t, x, tick())
	return x
}

// busy has a deal that is done, one that is not, two that are open, and mail of all kinds on its way.
func busy(t *testing.T) *town.Town {
	t.Helper()
	x := behind(t, even(),
		begin(want(0, -20), want(3, 20)),
		begin(want(0, -40), want(5, 40)),
		begin(want(4, 7)),
		begin(want(1, -1), want(2, 1)),
		tick())
	// Both asks of the deal 0 come, and their says; then the first ask of the deal 1, which is in vain.
	do(t, x, deliver(0), deliver(0), deliver(5), deliver(5), deliver(0), deliver(4))
	// An end and an ask are answered; another ask is doubled.
	do(t, x, tick(), deliver(4), deliver(2), double(1))
	return x
}

func TestBusy(t *testing.T) {
	x := busy(t)
	for n, state := range []int{api.Done, api.Not, api.Open, api.Open} {
		checkState(t, x, n, state)
	}
	checkMail(t, x,
		ask(1, want(5, 40)), ask(2, want(4, 7)), ask(3, want(2, 1)),
		end(0, 1, true), end(1, 0, false), end(1, 2, false), ask(2, want(4, 7)), ask(3, want(1, -1)), ask(3, want(2, 1)),
		over(0, 0, true), say(3, want(1, -1), true), ask(2, want(4, 7)))
	calms(t, x)
	checkDone(t, x, 0, 2, 3)
	checkWorld(t, x, api.World{30, 49, 51, 70, 57, 50})
}

func TestNew(t *testing.T) {
	for _, w := range []api.World{{}, even(), {0, most, 1, most - 1, 50, 7}, {most, most, most, most, most, most}} {
		x := must(t, w)
		if x.Len() != 0 {
			t.Errorf("Len: %d", x.Len())
		}
		checkMail(t, x)
		checkDone(t, x)
		checkWorld(t, x, w)
		checkSerial(t, x, w)
		for s := range api.Shops {
			c := x.Clerk(s)
			if len(c.Records()) != 0 || len(c.Holds()) != 0 {
				t.Errorf("shop %d: %v %v", s, c.Records(), c.Holds())
			}
		}
		for n, value := range w {
			if got := x.Clerk(n / api.PerShop).Counts()[n%api.PerShop]; got != (api.Count{Value: value}) {
				t.Errorf("counter %d of %v: %+v", n, w, got)
			}
		}
		idle(t, x, tick())
		checkCalm(t, x, 0)
	}
}

// A counter of 0, of MaxValue, of one less and of one more, in each place.
func TestNewOfEdges(t *testing.T) {
	for at := range api.Counters {
		for _, n := range []int{0, 1, most - 1, most} {
			w := even()
			w[at] = n
			checkWorld(t, must(t, w), w)
		}
		for _, n := range append(farNumbers(), -1, -most, most+1, 1<<32, 50+1<<32) {
			w := even()
			w[at] = n
			if town.New(w) != nil {
				t.Errorf("New(%v): a town", w)
			}
		}
	}
}

func TestClerk(t *testing.T) {
	for _, x := range []*town.Town{must(t, even()), busy(t)} {
		for s := range api.Shops {
			c := x.Clerk(s)
			if c == nil || c != x.Clerk(s) {
				t.Fatalf("Clerk(%d): %v", s, c)
			}
			for other := range s {
				if c == x.Clerk(other) {
					t.Errorf("Clerk(%d) is Clerk(%d)", s, other)
				}
			}
		}
		for _, s := range append(farNumbers(), -1, -2, -api.Shops, api.Shops, api.Shops+1, 1<<32) {
			if c := x.Clerk(s); c != nil {
				t.Errorf("Clerk(%d): %v", s, c)
			}
		}
	}
}

// A clerk that was asked for ahead tells what came to its shop since, and behind a crash, too.
func TestClerkStays(t *testing.T) {
	x := must(t, even())
	c := x.Clerk(1)
	do(t, x, begin(want(2, -7)), tick(), deliver(0))
	if got := c.Counts()[0]; got != (api.Count{Value: 50, Out: 7}) {
		t.Errorf("held: %+v", got)
	}
	do(t, x, shopForgets(1))
	checkCalm(t, x, 1)
	if got := c.Counts()[0]; got != (api.Count{Value: 43}) || c != x.Clerk(1) {
		t.Errorf("done: %+v", got)
	}
}

// One deal of two shops, step by step: what is on its way, what is held, and what was decided.
func TestStepByStep(t *testing.T) {
	down, up := want(0, -20), want(5, 30)
	x := behind(t, even(), begin(down, up))
	checkMail(t, x)
	do(t, x, tick())
	checkMail(t, x, ask(0, down), ask(0, up))
	do(t, x, deliver(0))
	checkMail(t, x, ask(0, up), say(0, down, true))
	checkCounts(t, x, [3]int{50, 20, 0}, [3]int{50, 0, 0}, [3]int{50, 0, 0}, [3]int{50, 0, 0}, [3]int{50, 0, 0}, [3]int{50, 0, 0})
	do(t, x, deliver(1))
	checkMail(t, x, ask(0, up))
	checkState(t, x, 0, api.Open)
	do(t, x, tick())
	checkMail(t, x, ask(0, up), ask(0, up))
	do(t, x, deliver(0), deliver(1))
	checkState(t, x, 0, api.Done)
	checkDone(t, x, 0)
	checkWorld(t, x, even())
	checkSerial(t, x, api.World{30, 50, 50, 50, 50, 80})
	checkCounts(t, x, [3]int{50, 20, 0}, [3]int{50, 0, 0}, [3]int{50, 0, 0}, [3]int{50, 0, 0}, [3]int{50, 0, 0}, [3]int{50, 0, 30})
	do(t, x, tick())
	checkMail(t, x, ask(0, up), end(0, 0, true), end(0, 2, true))
	do(t, x, deliver(2))
	checkMail(t, x, ask(0, up), end(0, 0, true), over(0, 2, true))
	checkWorld(t, x, api.World{50, 50, 50, 50, 50, 80})
	// The ask that comes late finds the deal over, and says so: it is done all the same.
	do(t, x, deliver(0))
	checkMail(t, x, end(0, 0, true), over(0, 2, true), say(0, up, false))
	do(t, x, deliver(2), deliver(1))
	checkState(t, x, 0, api.Done)
	checkMail(t, x, end(0, 0, true))
	do(t, x, tick())
	checkMail(t, x, end(0, 0, true), end(0, 0, true))
	do(t, x, deliver(0), deliver(0))
	checkMail(t, x, over(0, 0, true), over(0, 0, true))
	do(t, x, deliver(0), deliver(0))
	checkMail(t, x)
	checkStill(t, x)
	idle(t, x, tick())
	checkWorld(t, x, api.World{30, 50, 50, 50, 50, 80})
}

// A deal that can't be, step by step: its other want is held no longer.
func TestStepByStepOfWhatCantBe(t *testing.T) {
	up, down := want(3, 50), want(4, -51)
	x := behind(t, even(), begin(up, down), tick(), deliver(0), deliver(0))
	checkMail(t, x, say(0, up, true), say(0, down, false))
	do(t, x, deliver(1))
	checkState(t, x, 0, api.Not)
	do(t, x, deliver(0))
	checkState(t, x, 0, api.Not)
	checkCounts(t, x, [3]int{50, 0, 0}, [3]int{50, 0, 0}, [3]int{50, 0, 0}, [3]int{50, 0, 50}, [3]int{50, 0, 0}, [3]int{50, 0, 0})
	do(t, x, tick())
	checkMail(t, x, end(0, 1, false), end(0, 2, false))
	do(t, x, deliver(0), deliver(0))
	checkMail(t, x, over(0, 1, false), over(0, 2, false))
	do(t, x, deliver(0), deliver(0))
	checkStill(t, x)
	checkDone(t, x)
	checkWorld(t, x, even())
	checkSerial(t, x, even())
}

// Two deals want 20 and 40 of a counter that has 50. Who is held first is held; the other one is not done, and its other wants are held no longer.
func TestTwoDealsThatWantTooMuch(t *testing.T) {
	for _, first := range []int{0, 1} {
		x := behind(t, api.World{2: 50}, begin(want(2, -20), want(5, 20)), begin(want(0, 40), want(2, -40)), tick())
		if first == 0 {
			do(t, x, deliver(0))
		} else {
			do(t, x, deliver(3))
		}
		checkCalm(t, x, 1)
		checkDone(t, x, first)
		checkState(t, x, 1-first, api.Not)
		checkWorld(t, x, []api.World{{2: 30, 5: 20}, {0: 40, 2: 10}}[first])
	}
}

// A deal over all three shops, and one with two counters of a shop.
func TestDealsOverAllShops(t *testing.T) {
	x := behind(t, even(), begin(want(4, 50), want(3, -50), want(0, 7), want(1, -8)), begin(want(5, -50), want(2, 50), want(1, -42)))
	checkCalm(t, x, 2)
	checkDone(t, x, 0, 1)
	checkWorld(t, x, api.World{57, 0, 100, 0, 100, 0})
	do(t, x, begin(want(0, 43), want(3, 1), want(5, -1)), begin(want(2, -100), want(4, -100), want(0, -57)))
	checkCalm(t, x, 2)
	checkDone(t, x, 0, 1, 3)
	checkState(t, x, 2, api.Not)
	checkWorld(t, x, api.World{})
}

// The first and the last that a counter has, and one more, of a counter that has nothing and of one that has all.
func TestDealsAtTheEdges(t *testing.T) {
	for counter := range api.Counters {
		for _, value := range []int{0, 1, most - 1, most} {
			for _, delta := range []int{-most, 1 - most, -1, 1, most - 1, most} {
				var w api.World
				w[counter] = value
				x := behind(t, w, begin(want(counter, delta)))
				checkCalm(t, x, 2)
				if sum := value + delta; sum < 0 || sum > most {
					checkState(t, x, 0, api.Not)
				} else {
					checkState(t, x, 0, api.Done)
					w[counter] = sum
				}
				checkWorld(t, x, w)
			}
		}
	}
}

// As many deals as there may be, and one more, whatever became of the others.
func TestBeginOfOneMore(t *testing.T) {
	x := must(t, even())
	for n := range api.MaxDeals {
		do(t, x, begin(want(n%api.Counters, 1)))
		if x.Len() != n+1 {
			t.Errorf("Len: %d, want %d", x.Len(), n+1)
		}
	}
	more := begin(want(0, 1))
	refuses(t, x, more, api.ErrFull)
	do(t, x, tick(), quit(0), quit(lastDeal))
	refuses(t, x, more, api.ErrFull)
	calms(t, x)
	refuses(t, x, more, api.ErrFull)
	do(t, x, brokerForgets())
	refuses(t, x, more, api.ErrFull)
	checkDone(t, x, 1, 2, 3, 4, 5, 6)
}

// All that is due is sent in order, behind what is on its way; what there is no room for is lost.
func TestTickTillThereIsNoRoom(t *testing.T) {
	x := full(t)
	due := x.Due()
	if len(due) != api.MaxDeals*api.MaxWants {
		t.Fatalf("Due: %+v", due)
	}
	checkMail(t, x, due...)
	do(t, x, tick())
	all := slices.Concat(due, due)[:api.MaxMail]
	checkMail(t, x, all...)
	idle(t, x, tick())
	// One comes, and one more is lost: there is room for the first two that are due, and no more.
	do(t, x, lose(3), lose(0), tick())
	checkMail(t, x, slices.Concat(all[1:3], all[4:], due[:2])...)
}

// An answer finds room, for what it answers is on its way no longer.
func TestAnswerWhenThereIsNoRoom(t *testing.T) {
	x := full(t)
	do(t, x, tick())
	all := x.Mail()
	do(t, x, deliver(5))
	all = append(slices.Delete(all, 5, 6), say(1, want(1, -2), true))
	checkMail(t, x, all...)
	do(t, x, quit(0), deliver(api.MaxMail-1))
	checkMail(t, x, all[:api.MaxMail-1]...)
	do(t, x, tick())
	checkMail(t, x, append(all[:api.MaxMail-1:api.MaxMail-1], end(0, 0, false))...)
	do(t, x, deliver(api.MaxMail-1))
	checkMail(t, x, append(all[:api.MaxMail-1:api.MaxMail-1], over(0, 0, false))...)
	calms(t, x)
	checkDone(t, x, 1, 2, 3, 4, 5, 6, 7)
}

func TestDoubleTillThereIsNoRoom(t *testing.T) {
	x := full(t)
	all := x.Mail()
	for len(all) < api.MaxMail {
		do(t, x, double(3))
		all = append(all, all[3])
		checkMail(t, x, all...)
	}
	for _, n := range append(farNumbers(), -1, 0, 3, api.MaxMail-1, api.MaxMail) {
		refuses(t, x, double(n), api.ErrFull)
	}
	do(t, x, lose(0), double(0))
	checkMail(t, x, append(all[1:], all[1])...)
	refuses(t, x, double(0), api.ErrFull)
	calms(t, x)
}

func TestLoseAndDouble(t *testing.T) {
	x := busy(t)
	for all := x.Mail(); len(all) > 0; all = x.Mail() {
		for at := range all {
			do(t, x, double(at))
			checkMail(t, x, append(all[:len(all):len(all)], all[at])...)
			do(t, x, lose(len(all)))
			checkMail(t, x, all...)
		}
		at := len(all) / 2
		do(t, x, lose(at))
		checkMail(t, x, slices.Delete(all, at, at+1)...)
	}
	calms(t, x)
	checkDone(t, x, 0, 2, 3)
}

func TestQuit(t *testing.T) {
	x := busy(t)
	refuses(t, x, quit(0), api.ErrOver)
	refuses(t, x, quit(1), api.ErrOver)
	refuses(t, x, quit(4), api.ErrNone)
	do(t, x, quit(2))
	checkState(t, x, 2, api.Not)
	refuses(t, x, quit(2), api.ErrOver)
	calms(t, x)
	checkDone(t, x, 0, 3)
	checkWorld(t, x, api.World{30, 49, 51, 70, 50, 50})
}

// What is not asked for in a step of its kind is left aside: a number, and wants that may not be.
func TestStepsWithWhateverElse(t *testing.T) {
	wants := [][]api.Want{nil, {}, {want(0, 1)}, {want(-1, 0)}, slices.Repeat([]api.Want{want(9, 0)}, 9)}
	for _, n := range farNumbers() {
		wants = append(wants, []api.Want{want(n, n)})
	}
	for _, s := range []api.Step{tick(), deliver(1), lose(1), double(1), quit(2), shopForgets(1), brokerForgets()} {
		plain := busy(t)
		do(t, plain, s)
		for _, s.Wants = range wants {
			x := busy(t)
			do(t, x, s)
			if told(x) != told(plain) {
				t.Errorf("%+v: %s, want %s", s, told(x), told(plain))
			}
		}
	}
	for _, s := range []api.Step{begin(want(0, 1)), tick(), brokerForgets()} {
		plain := busy(t)
		do(t, plain, s)
		for _, s.N = range append(farNumbers(), -1, 1, 3) {
			x := busy(t)
			do(t, x, s)
			if told(x) != told(plain) {
				t.Errorf("%+v: %s, want %s", s, told(x), told(plain))
			}
		}
	}
}

// Asking changes nothing.
func TestAskingTwice(t *testing.T) {
	for _, x := range []*town.Town{must(t, even()), full(t), busy(t)} {
		before := told(x)
		for range 3 {
			if got := told(x); got != before {
				t.Errorf("%s, was %s", got, before)
			}
		}
	}
}

func TestTownsShareNothing(t *testing.T) {
	for _, other := range []*town.Town{must(t, even()), full(t), busy(t)} {
		before := told(other)
		one := busy(t)
		do(t, one, double(0), lose(1), quit(2), begin(want(1, 3)), tick(), shopForgets(0), brokerForgets())
		calms(t, one)
		if got := told(other); got != before {
			t.Errorf("%s, was %s", got, before)
		}
	}
}

// spoil overwrites a list and what lies behind its length.
func spoil[E any](l []E) {
	var zero E
	l = l[:cap(l)]
	for i := range l {
		l[i] = zero
	}
	_ = append(l[:0], zero)
}

// What was answered is the asker's, and stays as it is, too.
func TestAnswersAreNewMemory(t *testing.T) {
	for _, x := range []*town.Town{full(t), busy(t)} {
		calm := busy(t)
		calms(t, calm)
		for _, x := range []*town.Town{x, calm} {
			before := told(x)
			spoil(x.Mail())
			spoil(x.Due())
			spoil(x.Done())
			for n := range x.Len() {
				spoil(x.Wants(n))
			}
			for s := range api.Shops {
				spoil(x.Clerk(s).Holds())
				spoil(x.Clerk(s).Records())
				counts := x.Clerk(s).Counts()
				counts[0].Value++
			}
			w := x.World()
			w[0]++
			w, _ = x.Serial()
			w[0]++
			if got := told(x); got != before {
				t.Errorf("%s, was %s", got, before)
			}
			mail, other := x.Mail(), x.Mail()
			spoil(mail)
			if !slices.Equal(other, x.Mail()) {
				t.Errorf("another list: %+v", other)
			}
		}
		calms(t, x)
	}
}

// A list of mail stays as it was answered, whatever comes and goes behind it.
func TestMailStays(t *testing.T) {
	for _, s := range []api.Step{tick(), deliver(0), deliver(1), lose(0), double(0)} {
		x := busy(t)
		mail := x.Mail()
		before := slices.Clone(mail)
		do(t, x, s)
		calms(t, x)
		if !slices.Equal(mail, before) {
			t.Errorf("%+v: %+v, was %+v", s, mail, before)
		}
	}
}

// Wants and worlds that were handed in are neither changed nor kept.
func TestWhatIsHandedInIsNotKept(t *testing.T) {
	w := even()
	x := must(t, w)
	w[0], w[4] = 0, 0
	checkWorld(t, x, even())
	checkSerial(t, x, even())
	all := []api.Want{want(4, 1), want(0, -1), want(2, 2), want(3, 3)}
	copied := slices.Clone(all)
	do(t, x, begin(all[:2]...))
	refuses(t, x, begin(all[1:1]...), api.ErrForm)
	do(t, x, tick())
	if !slices.Equal(all, copied) {
		t.Errorf("handed in: %v, was %v", all, copied)
	}
	spoil(all)
	if got := x.Wants(0); !slices.Equal(got, copied[:2]) {
		t.Errorf("Wants: %v", got)
	}
	do(t, x, shopForgets(0), shopForgets(2))
	checkCalm(t, x, 1)
	checkWorld(t, x, api.World{49, 50, 50, 50, 51, 50})
}
