package keep_test

import (
	"testing"

	"handsel/api"
	"handsel/keep"
)

// crash holds all that a keeper tells behind a crash, and behind a second one, against what it told ahead.
func crash(t *testing.T, k *keep.Keeper) {
	t.Helper()
	before := told(k)
	for n := range 2 {
		k.Crash()
		if got := told(k); got != before {
			t.Errorf("crash %d: %s, was %s", n, got, before)
		}
	}
}

func TestCrashAtTheBeginning(t *testing.T) {
	for no := range api.Shops {
		k := must(t, no, api.World{0, most, 10, 20, most, 0})
		crash(t, k)
		checkRecords(t, k)
		checkHolds(t, k)
	}
}

// asked is a record, and the code that it is answered by.
type asked struct {
	api.Record
	code int
}

// run is what one keeper is asked: holds, ends, all of it again, and what has a code.
func run() []asked {
	return []asked{
		{held(4, 2, -6), 0},
		{held(0, 2, -5), api.ErrShort},
		{held(0, 3, 80), 0},
		{held(4, 2, -6), 0},
		{held(4, 3, 1), api.ErrFull},
		{held(4, 2, -5), api.ErrOther},
		{ended(4, true), 0},
		{held(4, 2, -6), api.ErrOver},
		{ended(4, true), 0},
		{ended(4, false), api.ErrOther},
		{held(1, 2, -4), 0},
		{api.Record{}, api.ErrKind},
		{ended(0, false), 0},
		{held(2, 3, 80), 0},
		{api.Record{Kind: api.REnd, Deal: 2, Delta: 1}, api.ErrForm},
		{held(1, 3, -20), 0},
		{held(2, 2, 96), 0},
		{ended(lastDeal, false), 0},
		{ended(2, true), 0},
		{ended(1, true), 0},
		{ended(1, true), 0},
		{ended(-1, true), api.ErrRange},
	}
}

func checkEndOfRun(t *testing.T, k *keep.Keeper) {
	t.Helper()
	checkCounts(t, k, [3]int{96, 0, 0}, [3]int{80, 0, 0})
	checkHolds(t, k)
	checkRecords(t, k,
		held(4, 2, -6), held(0, 3, 80), ended(4, true), held(1, 2, -4), ended(0, false), held(2, 3, 80),
		held(1, 3, -20), held(2, 2, 96), ended(lastDeal, false), ended(2, true), ended(1, true))
	for deal, is := range []struct{ over, done bool }{{true, false}, {true, true}, {true, true}, {}, {true, true}, {}, {}, {true, false}} {
		checkOver(t, k, deal, is.over, is.done)
	}
}

// A crash behind each step, in one and the same run: all goes on as if none had been.
func TestCrashBehindEachStep(t *testing.T) {
	k := must(t, 1, api.World{2: 10, 3: 20})
	for _, a := range run() {
		do(t, k, a.Record, a.code)
		crash(t, k)
	}
	checkEndOfRun(t, k)
}

// One crash alone, at each place of the run.
func TestCrashOnce(t *testing.T) {
	all := run()
	for at := range len(all) + 1 {
		k := must(t, 1, api.World{2: 10, 3: 20})
		for i, a := range all {
			if i == at {
				k.Crash()
			}
			do(t, k, a.Record, a.code)
		}
		if at == len(all) {
			k.Crash()
		}
		checkEndOfRun(t, k)
	}
}

// What was held, and what was over, is so behind a crash: each is asked for again, and for something else.
func TestCrashForgetsNothingThatWasDone(t *testing.T) {
	k := must(t, 0, api.World{10, 20}, held(3, 0, -7), held(3, 1, 80), ended(5, true), ended(6, false))
	crash(t, k)
	checkCounts(t, k, [3]int{10, 7, 0}, [3]int{20, 0, 80})
	checkHolds(t, k, [3]int{3, 0, -7}, [3]int{3, 1, 80})
	do(t, k, held(3, 0, -7), 0)
	do(t, k, held(3, 0, -6), api.ErrOther)
	do(t, k, held(1, 0, -4), api.ErrShort)
	do(t, k, held(1, 1, 1), api.ErrFull)
	do(t, k, held(5, 0, -1), api.ErrOver)
	do(t, k, ended(5, false), api.ErrOther)
	do(t, k, ended(6, true), api.ErrOther)
	do(t, k, held(1, 0, -3), 0)
	do(t, k, ended(3, true), 0)
	checkCounts(t, k, [3]int{3, 3, 0}, [3]int{100, 0, 0})
	checkRecords(t, k, held(3, 0, -7), held(3, 1, 80), ended(5, true), ended(6, false), held(1, 0, -3), ended(3, true))
}

// A crash takes back nothing that was asked of one keeper alone: those beside it go on.
func TestCrashIsOneKeepers(t *testing.T) {
	w := api.World{10, 20}
	one, other := must(t, 0, w, held(1, 0, -7)), must(t, 0, w, held(2, 0, -6))
	before := told(other)
	one.Crash()
	do(t, one, ended(1, true), 0)
	one.Crash()
	if got := told(other); got != before {
		t.Errorf("%s, was %s", got, before)
	}
	checkCounts(t, one, [3]int{3, 0, 0}, [3]int{20, 0, 0})
}

// No call that may be asked tells a crash that does nothing from one that replays: only what came into the shop past Do is forgotten.
func TestCrashForgetsWhatIsNotWritten(t *testing.T) {
	k := must(t, 0, api.World{10, 20}, held(1, 0, -7))
	before := told(k)
	k.Shop.Hold(2, api.Want{Counter: 0, Delta: -3})
	k.Shop.End(1, true)
	k.Crash()
	if got := told(k); got != before {
		t.Errorf("%s, was %s", got, before)
	}
}
