package town_test

import (
	"slices"
	"testing"

	"handsel/api"
	"handsel/plan"
	"handsel/town"
)

// goes does a step in a town and in a ledger, and tells whether they part.
func goes(t *testing.T, x *town.Town, b *ledger, s api.Step) bool {
	t.Helper()
	before := told(x)
	got, want := x.Step(s), b.step(s)
	after := told(x)
	switch {
	case got != want:
		t.Errorf("%+v of %s: %d, want %d", s, before, got, want)
	case got != 0 && after != before:
		t.Errorf("%+v: %d, and yet %s, was %s", s, got, after, before)
	case after != b.told():
		t.Errorf("%+v of %s: %s, want %s", s, before, after, b.told())
	default:
		checkSound(t, x)
		return true
	}
	return false
}

// calmsAlike lets both calm, and tells whether they part.
func calmsAlike(t *testing.T, x *town.Town, b *ledger) bool {
	t.Helper()
	before := told(x)
	got, want := calms(t, x), b.calm()
	if got != want || told(x) != b.told() {
		t.Errorf("Calm of %s: %d, %s; want %d, %s", before, got, told(x), want, b.told())
		return false
	}
	return true
}

// All that can be done in few steps with two deals in each other's way.
func TestAllShortRuns(t *testing.T) {
	some := []api.Step{
		tick(), deliver(0), deliver(1), deliver(-1), lose(0), double(1), quit(0), quit(1), brokerForgets(), shopForgets(0),
		begin(want(1, 1)), shopForgets(-1), begin(want(1, 0)), {},
	}
	first := []api.Step{begin(want(4, 1), want(0, -1)), begin(want(0, -1)), tick()}
	const length = 3
	var choose func(steps []api.Step) bool
	choose = func(steps []api.Step) bool {
		w := api.World{1}
		x, b := must(t, w), &ledger{first: w}
		for _, s := range steps {
			if !goes(t, x, b, s) {
				return false
			}
		}
		if !calmsAlike(t, x, b) {
			return false
		}
		for i := 0; i < len(some) && len(steps) < len(first)+length; i++ {
			if !choose(append(slices.Clip(steps), some[i])) {
				return false
			}
		}
		return true
	}
	choose(first)
}

// draw is a row of numbers that looks like none, and is the same each time.
type draw uint64

func (d *draw) below(n int) int {
	*d = *d*6364136223846793005 + 1442695040888963407
	return int(uint64(*d) >> 33 % uint64(n))
}

func (d *draw) world() api.World {
	var w api.World
	for i := range w {
		w[i] = []int{0, most, 50, d.below(most + 1)}[d.below(4)]
	}
	return w
}

// wants draws what a deal may want, at most so much of each counter.
func (d *draw) wants(widest int) []api.Want {
	counters := []int{0, 1, 2, 3, 4, 5}
	var l []api.Want
	for range 1 + d.below(api.MaxWants) {
		at := d.below(len(counters))
		l = append(l, want(counters[at], 1+d.below(widest)-(widest+1)*d.below(2)))
		counters = slices.Delete(counters, at, at+1)
	}
	return l
}

// wrongWants draws what a deal may not want.
func (d *draw) wrongWants() []api.Want {
	l := d.wants(most)
	switch at := d.below(len(l)); d.below(4) {
	case 0:
		l[at].Counter = []int{-1, api.Counters}[d.below(2)]
	case 1:
		l[at].Delta = []int{0, most + 1, -most - 1}[d.below(3)]
	case 2:
		l = append(l, l...)
	default:
		l = nil
	}
	return l
}

// number draws mostly what is near, and now and then whatever an int can have.
func (d *draw) number() int {
	if d.below(8) == 0 {
		return d.below(1<<31)<<33 | d.below(1<<31)<<2 | d.below(4)
	}
	return d.below(2*api.MaxMail) - api.MaxMail/2
}

// step draws mostly mail that comes, and now and then what may not be.
func (d *draw) step(widest int) api.Step {
	switch d.below(40) {
	case 0, 1, 2, 3:
		return begin(d.wants(widest)...)
	case 4:
		return begin(d.wrongWants()...)
	case 5, 6, 7, 8, 9:
		return tick()
	case 10, 11, 12:
		return lose(d.number())
	case 13, 14, 15:
		return double(d.number())
	case 16:
		return quit(d.below(api.MaxDeals+2) - 1)
	case 17, 18:
		return shopForgets(d.below(api.Shops+2) - 1)
	case 19:
		// Seldom, for it leaves no deal open that could be done.
		if d.below(4) == 0 {
			return brokerForgets()
		}
	case 20:
		return api.Step{Kind: []int{-1, 0, 9, d.number()<<4 | 9}[d.below(4)], N: d.number(), Wants: d.wants(most)}
	}
	return deliver(d.number())
}

// Deals that begin, are done and quit, among mail that is lost, doubled and late, and who forgets.
func TestLongRuns(t *testing.T) {
	var d draw
	ends := [3]int{}
	for n := range 250 {
		w := d.world()
		x, b := must(t, w), &ledger{first: w}
		for range 60 + d.below(60) {
			if !goes(t, x, b, d.step([]int{5, 30, most}[n%3])) {
				return
			}
		}
		if !calmsAlike(t, x, b) {
			return
		}
		for n := range x.Len() {
			ends[x.State(n)]++
		}
	}
	// A run in which hardly anything is done, or all of it is, would tell little.
	if ends[api.Done] < 300 || ends[api.Not] < 300 {
		t.Errorf("%v", ends)
	}
}

// Shops that forget, wherever they do in a run, change nothing at all.
func TestLongRunsWithShopsThatForget(t *testing.T) {
	var d draw
	for n := range 100 {
		w := d.world()
		plain, x := must(t, w), must(t, w)
		for range 80 {
			s := d.step([]int{5, 30, most}[n%3])
			if got, want := x.Step(s), plain.Step(s); got != want {
				t.Fatalf("%+v: %d, want %d", s, got, want)
			}
			for range d.below(4) {
				x.Step(shopForgets(d.below(api.Shops)))
			}
			if told(x) != told(plain) {
				t.Fatalf("%+v: %s, want %s", s, told(x), told(plain))
			}
		}
		checkAlike(t, x, plain)
	}
}

// A broker that forgets, wherever it does in a run, has the same deals done, in the same order, and none open.
func TestLongRunsWithABrokerThatForgets(t *testing.T) {
	var d draw
	for n := range 150 {
		x := must(t, d.world())
		for range 80 {
			x.Step(d.step([]int{5, 30, most}[n%3]))
			if d.below(20) == 0 {
				checkForgets(t, x)
			}
		}
		done := x.Done()
		checkForgets(t, x)
		calms(t, x)
		checkDone(t, x, done...)
		if t.Failed() {
			return
		}
	}
}

// A deal that is begun when all is calm is done just if plan.Apply has no fault of it.
func TestDealsOneBehindTheOther(t *testing.T) {
	var d draw
	ends := [3]int{}
	for n := range 400 {
		x := must(t, d.world())
		for deal := range api.MaxDeals {
			l, before := d.wants([]int{5, 30, most}[n%3]), x.World()
			after, fault := plan.Apply(before, l)
			state := api.Done
			if fault.Code != 0 {
				state, after = api.Not, before
			}
			do(t, x, begin(l...))
			checkCalm(t, x, 2)
			checkState(t, x, deal, state)
			checkWorld(t, x, after)
			ends[state]++
			if t.Failed() {
				t.Fatalf("%v of %v", l, before)
			}
		}
	}
	if ends[api.Done] < 300 || ends[api.Not] < 300 {
		t.Errorf("%v", ends)
	}
}

// moves draws wants that are nought together.
func (d *draw) moves() []api.Want {
	l := d.wants(most / api.MaxWants)
	if len(l) == 1 {
		return []api.Want{want(1, -l[0].Delta), want(4, l[0].Delta)}
	}
	sum := 0
	for _, w := range l[1:] {
		sum += w.Delta
	}
	if sum == 0 {
		return l[1:]
	}
	l[0].Delta = -sum
	return l
}

func sum(w api.World) int {
	n := 0
	for _, value := range w {
		n += value
	}
	return n
}

// Deals whose wants are nought together leave the sum of all counters as it was.
func TestSumStays(t *testing.T) {
	var d draw
	for range 300 {
		w := d.world()
		x := must(t, w)
		for range 80 {
			s := d.step(1)
			if s.Kind == api.SBegin {
				s.Wants = d.moves()
			}
			x.Step(s)
			if serial, code := x.Serial(); sum(serial) != sum(w) || code != 0 {
				t.Fatalf("Serial: %v %d of %v", serial, code, w)
			}
		}
		calms(t, x)
		if got := x.World(); sum(got) != sum(w) {
			t.Fatalf("World: %v of %v", got, w)
		}
	}
}

// quitsAll quits all deals, wherever they are.
func quitsAll(x *town.Town) {
	for n := range x.Len() {
		x.Step(quit(n))
	}
}

// Deals that are quit ahead of being done leave all counters as those deals leave them that were done.
func TestLongRunsThatAreQuit(t *testing.T) {
	var d draw
	none := 0
	for range 400 {
		w := d.world()
		x := must(t, w)
		for range 10 + d.below(20) {
			x.Step(d.step(30))
		}
		done := x.Done()
		serial, _ := x.Serial()
		quitsAll(x)
		calms(t, x)
		checkDone(t, x, done...)
		checkWorld(t, x, serial)
		if len(done) == 0 && x.Len() > 0 {
			none++
			checkWorld(t, x, w)
		}
		if t.Failed() {
			return
		}
	}
	if none < 50 {
		t.Errorf("only %d runs without a deal that was done", none)
	}
}
