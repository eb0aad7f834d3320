package keep_test

import (
	"fmt"
	"math"
	"slices"
	"testing"

	"handsel/api"
	"handsel/keep"
)

const (
	most     = api.MaxValue
	lastShop = api.Shops - 1
	lastDeal = api.MaxDeals - 1
)

// farNumbers are the edges of what an int can have.
func farNumbers() []int {
	return []int{math.MinInt, math.MinInt + 1, math.MinInt / 2, math.MaxInt/2 + 1, math.MaxInt - 1, math.MaxInt}
}

// held is the record of a hold.
func held(deal, counter, delta int) api.Record {
	return api.Record{Kind: api.RHold, Deal: deal, Counter: counter, Delta: delta}
}

// ended is the record of an end.
func ended(deal int, done bool) api.Record {
	return api.Record{Kind: api.REnd, Deal: deal, Done: done}
}

// teller is what a keeper and a shop both are.
type teller interface {
	Counts() [api.PerShop]api.Count
	Holds() []api.Hold
	Over(deal int) (bool, bool)
}

// ofShop is all that a shop tells.
func ofShop(s teller) string {
	text := fmt.Sprint(s.Counts(), s.Holds())
	for deal := range api.MaxDeals {
		over, done := s.Over(deal)
		text += fmt.Sprint(" ", over, done)
	}
	return text
}

// told is all that a keeper tells.
func told(k *keep.Keeper) string {
	return fmt.Sprint(ofShop(k), k.Records())
}

// must makes a keeper, and does all that is given.
func must(t *testing.T, no int, w api.World, records ...api.Record) *keep.Keeper {
	t.Helper()
	k := keep.New(no, w)
	if k == nil {
		t.Fatalf("New(%d, %v): nil", no, w)
	}
	for _, r := range records {
		do(t, k, r, 0)
	}
	return k
}

// do asks a keeper, and holds its code against the one that is given; with a code nothing may be changed.
func do(t *testing.T, k *keep.Keeper, r api.Record, want int) {
	t.Helper()
	before := told(k)
	if code := k.Do(r); code != want {
		t.Errorf("Do(%+v): code %d, want %d", r, code, want)
	}
	if got := told(k); want != 0 && got != before {
		t.Errorf("Do(%+v): changed: %s, was %s", r, got, before)
	}
}

func checkRecords(t *testing.T, k *keep.Keeper, want ...api.Record) {
	t.Helper()
	if got := k.Records(); !slices.Equal(got, want) {
		t.Errorf("Records: %+v, want %+v", got, want)
	}
}

// checkCounts: the two counters, each as Value, Out, In.
func checkCounts(t *testing.T, s teller, want ...[3]int) {
	t.Helper()
	var counts [api.PerShop]api.Count
	for i, c := range want {
		counts[i] = api.Count{Value: c[0], Out: c[1], In: c[2]}
	}
	if got := s.Counts(); got != counts {
		t.Errorf("Counts: %v, want %v", got, counts)
	}
}

// checkHolds: each as its deal, counter and delta.
func checkHolds(t *testing.T, s teller, want ...[3]int) {
	t.Helper()
	var all []api.Hold
	for _, h := range want {
		all = append(all, api.Hold{Deal: h[0], Counter: h[1], Delta: h[2]})
	}
	if got := s.Holds(); !slices.Equal(got, all) {
		t.Errorf("Holds: %v, want %v", got, all)
	}
}

func checkOver(t *testing.T, s teller, deal int, over, done bool) {
	t.Helper()
	if o, d := s.Over(deal); o != over || d != done {
		t.Errorf("Over(%d): %v %v, want %v %v", deal, o, d, over, done)
	}
}

func TestNew(t *testing.T) {
	worlds := []api.World{
		{}, {1, 2, 3, 4, 5, 6}, {most, most, most, most, most, most},
		{0, most, most, 0, 0, most}, {most, 0, 0, most, most, 0},
	}
	for _, w := range worlds {
		for no := range api.Shops {
			k := must(t, no, w)
			checkRecords(t, k)
			checkCounts(t, k, [3]int{w[2*no], 0, 0}, [3]int{w[2*no+1], 0, 0})
			checkHolds(t, k)
			for deal := range api.MaxDeals {
				checkOver(t, k, deal, false, false)
			}
		}
	}
}

func TestNewOfNoShop(t *testing.T) {
	for _, no := range append(farNumbers(), -1, -2, api.Shops, api.Shops+1, api.Counters) {
		if k := keep.New(no, api.World{1, 2, 3, 4, 5, 6}); k != nil {
			t.Errorf("New(%d): a keeper", no)
		}
	}
}

// A counter that may not be is told by its own shop alone.
func TestNewOfWrongCounter(t *testing.T) {
	for counter := range api.Counters {
		for _, value := range append(farNumbers(), -1, most+1) {
			w := api.World{10, 11, 12, 13, 14, 15}
			w[counter] = value
			for no := range api.Shops {
				own := counter/api.PerShop == no
				if k := keep.New(no, w); (k == nil) != own {
					t.Errorf("New(%d, %v): nil is %v, want %v", no, w, k == nil, own)
				}
			}
		}
	}
}

func TestKeepersShareNothing(t *testing.T) {
	w := api.World{2: 10, 3: 20}
	one, other := must(t, 1, w), must(t, 1, w)
	before := told(other)
	do(t, one, held(0, 2, -3), 0)
	do(t, one, ended(0, true), 0)
	one.Crash()
	if got := told(other); got != before {
		t.Errorf("%s, want %s", got, before)
	}
}

func TestDo(t *testing.T) {
	k := must(t, 1, api.World{2: 10, 3: 20})
	all := []api.Record{
		held(4, 2, -6), held(0, 3, 7), held(4, 3, 70), ended(4, true),
		held(lastDeal, 2, 90), held(0, 2, -4), ended(lastDeal, false), ended(5, true), ended(6, false),
	}
	for i, r := range all {
		do(t, k, r, 0)
		checkRecords(t, k, all[:i+1]...)
	}
	checkCounts(t, k, [3]int{4, 4, 0}, [3]int{90, 0, 7})
	checkHolds(t, k, [3]int{0, 3, 7}, [3]int{0, 2, -4})
	over := map[int]bool{4: true, 5: true, 6: false, lastDeal: false}
	for deal := range api.MaxDeals {
		done, is := over[deal]
		checkOver(t, k, deal, is, done)
	}
}

// A counter that has 10; 7 are held to go: 3 more may go, 4 not.
func TestDoOfTheExample(t *testing.T) {
	for _, done := range []bool{true, false} {
		k := must(t, 0, api.World{10}, held(0, 0, -7))
		do(t, k, held(1, 0, -4), api.ErrShort)
		do(t, k, held(1, 0, -3), 0)
		do(t, k, ended(1, false), 0)
		do(t, k, ended(0, done), 0)
		left := 10
		if done {
			left = 3
		}
		checkCounts(t, k, [3]int{left, 0, 0}, [3]int{})
		checkRecords(t, k, held(0, 0, -7), held(1, 0, -3), ended(1, false), ended(0, done))
	}
}

func TestDoOfEachShop(t *testing.T) {
	for counter := range api.Counters {
		for no := range api.Shops {
			for _, deal := range []int{0, 1, lastDeal} {
				k := must(t, no, api.World{50, 50, 50, 50, 50, 50})
				if counter/api.PerShop != no {
					do(t, k, held(deal, counter, -7), api.ErrRange)
					checkRecords(t, k)
					continue
				}
				do(t, k, held(deal, counter, -7), 0)
				checkHolds(t, k, [3]int{deal, counter, -7})
				do(t, k, ended(deal, true), 0)
				counts := [2][3]int{{50, 0, 0}, {50, 0, 0}}
				counts[counter%2][0] = 43
				checkCounts(t, k, counts[:]...)
				checkOver(t, k, deal, true, true)
				checkRecords(t, k, held(deal, counter, -7), ended(deal, true))
			}
		}
	}
}

// busy is a keeper of shop 1 of which the deal 0 holds 6 of the 10 of counter 2 to go, and 80 of counter 3 to come, to all that it may have; the deal lastDeal was done, and the one ahead of it was not.
func busy(t *testing.T) *keep.Keeper {
	t.Helper()
	return must(t, 1, api.World{2: 10, 3: 20}, held(0, 2, -6), ended(lastDeal, true), held(0, 3, 80), ended(lastDeal-1, false))
}

// Each case is wrong in what it is named by, and, from there on, in what would be told behind that.
func TestDoCodes(t *testing.T) {
	const hold, end = api.RHold, api.REnd
	cases := []struct {
		what                       string
		kind, deal, counter, delta int
		done                       bool
		code                       int
	}{
		{"a hold that is done", hold, 1, 2, -1, true, api.ErrForm},
		{"a hold that is done, of no deal", hold, -1, 2, -1, true, api.ErrForm},
		{"a hold that is done, of no counter", hold, 1, 6, -1, true, api.ErrForm},
		{"a hold that is done, of nothing", hold, 1, 2, 0, true, api.ErrForm},
		{"a hold that is done, of a deal that is over", hold, lastDeal, 2, -1, true, api.ErrForm},
		{"a hold that is done, else as one that is held", hold, 0, 2, -6, true, api.ErrForm},
		{"a hold that is done, of more than there is", hold, 1, 2, -5, true, api.ErrForm},
		{"an end with a counter", end, 1, 2, 0, true, api.ErrForm},
		{"an end with a counter, not done", end, 1, 2, 0, false, api.ErrForm},
		{"an end with a counter below 0", end, 1, -1, 0, true, api.ErrForm},
		{"an end with a delta", end, 1, 0, 1, true, api.ErrForm},
		{"an end with a delta, not done", end, 1, 0, -1, false, api.ErrForm},
		{"an end with both", end, 1, 2, -6, false, api.ErrForm},
		{"an end with a counter, of no deal", end, api.MaxDeals, 2, 0, true, api.ErrForm},
		{"an end with a delta, of no deal", end, -1, 0, -6, true, api.ErrForm},
		{"an end with a counter, over so", end, lastDeal, 2, 0, true, api.ErrForm},
		{"an end with a delta, over otherwise", end, lastDeal, 0, 1, false, api.ErrForm},
		{"nothing", 0, 0, 0, 0, false, api.ErrKind},
		{"the kind ahead of both", 0, 1, 2, -1, false, api.ErrKind},
		{"the kind ahead of both, done", 0, 1, 2, -1, true, api.ErrKind},
		{"the kind behind both", 3, 1, 2, -1, false, api.ErrKind},
		{"the kind behind both, done", 3, 1, 0, 0, true, api.ErrKind},
		{"the kind behind both, of no deal", 3, -1, 6, 0, true, api.ErrKind},
		{"the kind -1", -1, 1, 2, -1, false, api.ErrKind},
		{"the kind of a hold, below 0", -hold, 1, 2, -1, false, api.ErrKind},
		{"the kind of an end, below 0", -end, 1, 0, 0, true, api.ErrKind},
		{"a hold of the deal -1", hold, -1, 2, -1, false, api.ErrRange},
		{"a hold of the deal MaxDeals", hold, api.MaxDeals, 2, -1, false, api.ErrRange},
		{"a hold of the deal -1, of nothing", hold, -1, 2, 0, false, api.ErrRange},
		{"a hold of the counter -1", hold, 1, -1, 0, false, api.ErrRange},
		{"a hold of the counter Counters", hold, 1, api.Counters, 0, false, api.ErrRange},
		{"a hold of nothing", hold, 1, 2, 0, false, api.ErrForm},
		{"a hold of nothing, of another shop's counter", hold, 1, 4, 0, false, api.ErrForm},
		{"a hold of nothing, of a deal that is over", hold, lastDeal, 2, 0, false, api.ErrForm},
		{"a hold of too much", hold, 1, 2, most + 1, false, api.ErrRange},
		{"a hold of too little", hold, 1, 2, -most - 1, false, api.ErrRange},
		{"a hold of the counter ahead of the shop's", hold, lastDeal, 1, -1, false, api.ErrRange},
		{"a hold of the counter behind the shop's", hold, lastDeal, 4, -1, false, api.ErrRange},
		{"a hold of a deal that was done", hold, lastDeal, 2, -5, false, api.ErrOver},
		{"a hold of a deal that was not done", hold, lastDeal - 1, 3, 1, false, api.ErrOver},
		{"a hold of something else", hold, 0, 2, -5, false, api.ErrOther},
		{"a hold of something else, too much", hold, 0, 3, 81, false, api.ErrOther},
		{"a hold of more than there is", hold, 1, 2, -5, false, api.ErrShort},
		{"a hold of more than there is room for", hold, 1, 3, 1, false, api.ErrFull},
		{"an end of the deal -1", end, -1, 0, 0, true, api.ErrRange},
		{"an end of the deal -1, not done", end, -1, 0, 0, false, api.ErrRange},
		{"an end of the deal MaxDeals", end, api.MaxDeals, 0, 0, true, api.ErrRange},
		{"an end of the deal MaxDeals, not done", end, api.MaxDeals, 0, 0, false, api.ErrRange},
		{"an end of what was done", end, lastDeal, 0, 0, false, api.ErrOther},
		{"an end of what was not done", end, lastDeal - 1, 0, 0, true, api.ErrOther},
	}
	for _, x := range cases {
		k := busy(t)
		r := api.Record{Kind: x.kind, Deal: x.deal, Counter: x.counter, Delta: x.delta, Done: x.done}
		before := told(k)
		// Asked twice: had the first one left something, the second would be taken.
		for range 2 {
			if code := k.Do(r); code != x.code {
				t.Errorf("%s: code %d, want %d", x.what, code, x.code)
			}
			if got := told(k); got != before {
				t.Errorf("%s: changed: %s, was %s", x.what, got, before)
			}
		}
	}
}

// The edges of what an int can have, in each place of a record that may be else.
func TestDoOfFarNumbers(t *testing.T) {
	k := busy(t)
	for _, n := range farNumbers() {
		for _, done := range []bool{true, false} {
			do(t, k, api.Record{Kind: n, Deal: 1, Counter: 2, Delta: -1, Done: done}, api.ErrKind)
			do(t, k, api.Record{Kind: n, Deal: n, Counter: n, Delta: n, Done: done}, api.ErrKind)
			do(t, k, ended(n, done), api.ErrRange)
			do(t, k, api.Record{Kind: api.REnd, Deal: 1, Counter: n, Done: done}, api.ErrForm)
			do(t, k, api.Record{Kind: api.REnd, Deal: 1, Delta: n, Done: done}, api.ErrForm)
			// The sum of both is 0, or wraps round to it.
			do(t, k, api.Record{Kind: api.REnd, Deal: 1, Counter: n, Delta: -n, Done: done}, api.ErrForm)
			do(t, k, api.Record{Kind: api.REnd, Deal: n, Counter: n, Delta: n, Done: done}, api.ErrForm)
		}
		do(t, k, held(n, 2, -1), api.ErrRange)
		do(t, k, held(1, n, -1), api.ErrRange)
		do(t, k, held(1, 2, n), api.ErrRange)
		do(t, k, held(n, n, n), api.ErrRange)
		do(t, k, api.Record{Kind: api.RHold, Deal: n, Counter: n, Delta: n, Done: true}, api.ErrForm)
	}
	do(t, k, held(1, 2, -4), 0)
}

// What was done is taken again, at once and later, and written once.
func TestDoAgain(t *testing.T) {
	all := []api.Record{held(1, 2, -6), held(0, 2, -4), held(1, 3, 80), ended(lastDeal, true), ended(0, false), ended(3, false)}
	k := must(t, 1, api.World{2: 10, 3: 20})
	for i, r := range all {
		do(t, k, r, 0)
		before := told(k)
		for _, ahead := range all[:i+1] {
			want := 0
			if ahead.Kind == api.RHold && i >= 4 && ahead.Deal == 0 {
				want = api.ErrOver
			}
			do(t, k, ahead, want)
			if got := told(k); got != before {
				t.Errorf("Do(%+v) again behind %d: %s, was %s", ahead, i, got, before)
			}
		}
	}
	checkRecords(t, k, all...)
}

// A hold of a deal that is over is no longer what was done, however it was over.
func TestDoOfWhatWasHeld(t *testing.T) {
	for _, done := range []bool{true, false} {
		k := must(t, 0, api.World{10, 10}, held(2, 0, -6), held(2, 1, 6), ended(2, done))
		do(t, k, held(2, 0, -6), api.ErrOver)
		do(t, k, held(2, 1, 6), api.ErrOver)
		do(t, k, ended(2, done), 0)
		do(t, k, ended(2, !done), api.ErrOther)
		checkRecords(t, k, held(2, 0, -6), held(2, 1, 6), ended(2, done))
	}
}

// What had a code is written when it has none any more, and stands where it came then.
func TestDoOfWhatHadACode(t *testing.T) {
	k := must(t, 0, api.World{10, 95}, held(0, 0, -7), held(1, 1, 4))
	do(t, k, held(2, 0, -4), api.ErrShort)
	do(t, k, held(2, 1, 3), api.ErrFull)
	do(t, k, ended(1, false), 0)
	do(t, k, held(2, 1, 3), 0)
	do(t, k, ended(0, false), 0)
	do(t, k, held(2, 0, -4), 0)
	checkRecords(t, k, held(0, 0, -7), held(1, 1, 4), ended(1, false), held(2, 1, 3), ended(0, false), held(2, 0, -4))
	checkHolds(t, k, [3]int{2, 1, 3}, [3]int{2, 0, -4})
}

// Records that are alike in all but one thing are not just so.
func TestDoOfWhatIsNearlySo(t *testing.T) {
	all := []api.Record{
		held(1, 4, 5), held(2, 4, 5), held(1, 5, 5), held(2, 5, -5),
		ended(0, true), ended(1, true), ended(2, true), ended(3, false), ended(lastDeal, false),
	}
	k := must(t, lastShop, api.World{4: 50, 5: 50}, all...)
	checkRecords(t, k, all...)
}

// All that a keeper can ever write, each of it once.
func TestDoOfAllDeals(t *testing.T) {
	var all []api.Record
	for deal := range api.MaxDeals {
		all = append(all, held(deal, 0, -1), held(deal, 1, 1))
	}
	for deal := range api.MaxDeals {
		all = append(all, ended(deal, deal%2 == 0))
	}
	k := must(t, 0, api.World{8, 92}, all...)
	checkRecords(t, k, all...)
	checkCounts(t, k, [3]int{4, 0, 0}, [3]int{96, 0, 0})
	checkHolds(t, k)
}

// What was answered is the asker's: changed, or made longer, it changes nothing in the keeper.
func TestAnswersAreNewMemory(t *testing.T) {
	k := busy(t)
	before := told(k)
	records, holds, counts := k.Records(), k.Holds(), k.Counts()
	_ = append(k.Records(), ended(3, true))
	for _, l := range [][]api.Record{records, k.Records()[:1]} {
		clear(l[:cap(l)])
	}
	clear(holds[:cap(holds)])
	counts[0].Value = 77
	if got := told(k); got != before {
		t.Fatalf("%s, was %s", got, before)
	}
	k.Crash()
	if got := told(k); got != before {
		t.Errorf("behind a crash: %s, was %s", got, before)
	}
}

// A list that was answered stays as it is, whatever is asked then.
func TestAnswersStay(t *testing.T) {
	k := busy(t)
	records, holds := k.Records(), k.Holds()
	wasRecords, wasHolds := slices.Clone(records), slices.Clone(holds)
	do(t, k, held(1, 2, -4), 0)
	do(t, k, ended(0, true), 0)
	k.Crash()
	do(t, k, ended(1, false), 0)
	if !slices.Equal(records, wasRecords) || !slices.Equal(holds, wasHolds) {
		t.Errorf("%v %v, was %v %v", records, holds, wasRecords, wasHolds)
	}
}
