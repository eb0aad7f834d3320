package plan_test

import (
	"math"
	"math/big"
	"slices"
	"testing"

	"handsel/api"
	"handsel/count"
	"handsel/plan"
)

// The rules of the chapter, reckoned in numbers without bounds: what wraps round in the program is told by them.

func outside(x *big.Int, from, to int64) bool {
	return x.Cmp(big.NewInt(from)) < 0 || x.Cmp(big.NewInt(to)) > 0
}

func sum(a, b int) *big.Int {
	return new(big.Int).Add(big.NewInt(int64(a)), big.NewInt(int64(b)))
}

func ruleWant(w api.Want) int {
	if outside(sum(w.Counter, 0), 0, api.Counters-1) {
		return api.ErrRange
	}
	return count.Delta(w.Delta)
}

func ruleCheck(l []api.Want) api.Fault {
	if len(l) == 0 {
		return fault(api.ErrForm, -1)
	}
	if len(l) > api.MaxWants {
		return fault(api.ErrMany, -1)
	}
	for i, w := range l {
		if code := ruleWant(w); code != 0 {
			return fault(code, i)
		}
		for _, other := range l[:i] {
			if other.Counter == w.Counter {
				return fault(api.ErrTwice, i)
			}
		}
	}
	return api.Fault{}
}

func ruleShops(l []api.Want) []int {
	var shops []int
	for no := range api.Shops {
		for counter := no * api.PerShop; counter < (no+1)*api.PerShop; counter++ {
			wanted := func(w api.Want) bool { return w.Counter == counter }
			if slices.ContainsFunc(l, wanted) && !slices.Contains(shops, no) {
				shops = append(shops, no)
			}
		}
	}
	return shops
}

func ruleApply(w api.World, l []api.Want) (api.World, api.Fault) {
	if f := ruleCheck(l); f.Code != 0 {
		return api.World{}, f
	}
	after := w
	for i, want := range l {
		now := sum(after[want.Counter], 0)
		then := sum(after[want.Counter], want.Delta)
		switch {
		case outside(now, 0, api.MaxValue):
			return api.World{}, fault(api.ErrRange, i)
		case outside(then, 0, math.MaxInt64):
			return api.World{}, fault(api.ErrShort, i)
		case outside(then, math.MinInt64, api.MaxValue):
			return api.World{}, fault(api.ErrFull, i)
		}
		after[want.Counter] = int(then.Int64())
	}
	return after, api.Fault{}
}

func againstRules(t *testing.T, w api.World, l []api.Want) {
	if got, want := plan.Check(l), ruleCheck(l); got != want {
		t.Fatalf("Check(%v): %v, want %v", l, got, want)
	}
	if got, want := plan.Shops(l), ruleShops(l); !slices.Equal(got, want) {
		t.Fatalf("Shops(%v): %v, want %v", l, got, want)
	}
	got, f := plan.Apply(w, l)
	if want, wantFault := ruleApply(w, l); got != want || f != wantFault {
		t.Fatalf("Apply(%v, %v): %v %v, want %v %v", w, l, got, f, want, wantFault)
	}
}

func edges() []int {
	return []int{
		math.MinInt, math.MinInt + 1, math.MinInt + most, math.MinInt32,
		-most - 1, -most, -most + 1, -2, -1, 0, 1, 2, 3, 4, 5, 6, 7,
		most - 1, most, most + 1,
		math.MaxInt32, math.MaxInt - most, math.MaxInt - 1, math.MaxInt,
	}
}

// TestOneWantWhateverIsGiven: every edge as counter, as delta and as what the counter has.
func TestOneWantWhateverIsGiven(t *testing.T) {
	for _, counter := range edges() {
		for _, delta := range edges() {
			w := api.Want{Counter: counter, Delta: delta}
			if got, want := plan.Want(w), ruleWant(w); got != want {
				t.Fatalf("Want(%v): %d, want %d", w, got, want)
			}
			for _, value := range edges() {
				var world api.World
				for i := range world {
					world[i] = value
				}
				againstRules(t, world, []api.Want{w})
			}
		}
	}
}

// TestEveryValueWithEveryDelta: of one counter, all that may be, and their neighbours.
func TestEveryValueWithEveryDelta(t *testing.T) {
	for value := -2; value <= most+2; value++ {
		for delta := -most - 2; delta <= most+2; delta++ {
			againstRules(t, api.World{3: value}, []api.Want{{Counter: 3, Delta: delta}})
		}
	}
}

// TestEveryThreeCounters: each order in which three counters can be wanted, those that are none among them.
func TestEveryThreeCounters(t *testing.T) {
	world := api.World{5, 6, 7, 0, most, 1}
	for a := -1; a <= api.Counters; a++ {
		for b := -1; b <= api.Counters; b++ {
			for c := -1; c <= api.Counters; c++ {
				for _, delta := range []int{-6, -1, 0, 1, 95} {
					againstRules(t, world, list{{a, delta}, {b, 1}, {c, -delta}}.wants())
				}
			}
		}
	}
}

// TestManyLists: lists of all lengths about MaxWants, in worlds with a wrong counter now and then, by a fixed rule.
func TestManyLists(t *testing.T) {
	seed := uint64(1)
	next := func(bound int) int {
		seed = seed*6364136223846793005 + 1442695040888963407
		return int(seed>>33) % bound
	}
	pick := func(usual, from int) int {
		if next(20) == 0 {
			return edges()[next(len(edges()))]
		}
		return from + next(usual)
	}
	for range 200000 {
		var world api.World
		for i := range world {
			world[i] = pick(most+1, 0)
		}
		l := make([]api.Want, next(api.MaxWants+3))
		for i := range l {
			l[i] = api.Want{Counter: pick(api.Counters, 0), Delta: pick(121, -60)}
		}
		againstRules(t, world, l)
	}
}
