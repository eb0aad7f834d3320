package keep_test

import (
	"slices"
	"testing"

	"handsel/api"
	"handsel/keep"
	"handsel/shop"
)

// replay is a Replay without a fault.
func replay(t *testing.T, no int, w api.World, l []api.Record) *shop.Shop {
	t.Helper()
	s, fault := keep.Replay(no, w, l)
	if fault != (api.Fault{}) || s == nil {
		t.Fatalf("Replay(%d, %v, %+v): %v, nil is %v", no, w, l, fault, s == nil)
	}
	return s
}

func checkFault(t *testing.T, no int, w api.World, l []api.Record, code, at int) {
	t.Helper()
	s, fault := keep.Replay(no, w, l)
	if want := (api.Fault{Code: code, At: at}); fault != want || s != nil {
		t.Errorf("Replay(%d, %v, %+v): %v, want %v; nil is %v", no, w, l, fault, want, s == nil)
	}
}

func TestReplayOfNoRecords(t *testing.T) {
	w := api.World{0, most, 10, 20, most, 0}
	for no := range api.Shops {
		for _, l := range [][]api.Record{nil, {}, {ended(0, true)}} {
			s := replay(t, no, w, l[:0])
			if got, want := ofShop(s), ofShop(shop.New(no, w)); got != want {
				t.Errorf("shop %d: %s, want %s", no, got, want)
			}
		}
	}
}

func TestReplayOfNoShop(t *testing.T) {
	wrong := []api.Record{{}, {Kind: api.RHold, Done: true}}
	for _, l := range [][]api.Record{nil, {held(0, 0, 1)}, wrong} {
		for _, no := range append(farNumbers(), -1, -2, api.Shops, api.Shops+1) {
			checkFault(t, no, api.World{1, 2, 3, 4, 5, 6}, l, api.ErrRange, -1)
		}
		for _, value := range append(farNumbers(), -1, most+1) {
			checkFault(t, 0, api.World{0: value}, l, api.ErrRange, -1)
			checkFault(t, lastShop, api.World{5: value}, l, api.ErrRange, -1)
		}
	}
	// Another shop's counter may be whatever it is.
	replay(t, 0, api.World{2: -1, 5: most + 1}, nil)
}

// A keeper's own records make its shop again, behind each of its steps.
func TestReplayOfAKeepersOwn(t *testing.T) {
	w := api.World{2: 10, 3: 20}
	k := must(t, 1, w)
	for i, a := range run() {
		do(t, k, a.Record, a.code)
		if got, want := ofShop(replay(t, 1, w, k.Records())), ofShop(k); got != want {
			t.Errorf("behind %d: %s, want %s", i, got, want)
		}
	}
}

// A record that comes twice, at once or later, changes nothing more.
func TestReplayOfARecordTwice(t *testing.T) {
	w := api.World{2: 10, 3: 20}
	once := []api.Record{held(4, 2, -6), held(0, 3, 80), ended(4, true), ended(5, false)}
	want := ofShop(replay(t, 1, w, once))
	lists := [][]api.Record{
		{once[0], once[0], once[1], once[1], once[2], once[2], once[3], once[3]},
		{once[0], once[1], once[0], once[1], once[2], once[1], once[3], once[2], once[3]},
	}
	for _, l := range lists {
		if got := ofShop(replay(t, 1, w, l)); got != want {
			t.Errorf("%+v: %s, want %s", l, got, want)
		}
	}
	checkFault(t, 1, w, []api.Record{once[0], once[2], once[0]}, api.ErrOver, 2)
	checkFault(t, 1, w, []api.Record{once[0], once[2], ended(4, false)}, api.ErrOther, 2)
}

// One that has a code, at each place of a list that has none.
func TestReplayFaults(t *testing.T) {
	w := api.World{2: 10, 3: 20}
	good := []api.Record{held(4, 2, -6), held(0, 3, 80), ended(5, true), held(0, 2, -4)}
	cases := []struct {
		wrong api.Record
		code  int
	}{
		{api.Record{}, api.ErrKind},
		{api.Record{Kind: 3, Deal: 1, Counter: 2, Delta: 1}, api.ErrKind},
		{api.Record{Kind: api.RHold, Deal: 1, Counter: 2, Delta: -1, Done: true}, api.ErrForm},
		{api.Record{Kind: api.REnd, Deal: 1, Counter: 1}, api.ErrForm},
		{api.Record{Kind: api.REnd, Deal: 1, Delta: 1}, api.ErrForm},
		{held(1, 2, 0), api.ErrForm},
		{held(-1, 2, 1), api.ErrRange},
		{held(api.MaxDeals, 2, 1), api.ErrRange},
		{held(1, 4, 1), api.ErrRange},
		{ended(-1, true), api.ErrRange},
		{ended(api.MaxDeals, false), api.ErrRange},
		{held(1, 2, -11), api.ErrShort},
		{held(1, 3, 81), api.ErrFull},
	}
	for _, x := range cases {
		for at := range len(good) + 1 {
			checkFault(t, 1, w, slices.Insert(slices.Clone(good), at, x.wrong), x.code, at)
		}
	}
	replay(t, 1, w, good)
}

// What has a code only by what came ahead of it.
func TestReplayFaultsOfOrder(t *testing.T) {
	w := api.World{10, 20}
	checkFault(t, 0, w, []api.Record{held(0, 0, -7), held(1, 0, -4)}, api.ErrShort, 1)
	checkFault(t, 0, w, []api.Record{held(0, 1, 80), held(1, 1, 1), held(0, 1, 80)}, api.ErrFull, 1)
	checkFault(t, 0, w, []api.Record{held(0, 0, -7), held(0, 1, -1), held(0, 0, -6)}, api.ErrOther, 2)
	checkFault(t, 0, w, []api.Record{ended(0, true), held(0, 0, -7)}, api.ErrOver, 1)
	checkFault(t, 0, w, []api.Record{ended(0, true), ended(1, true), ended(0, false)}, api.ErrOther, 2)
	s := replay(t, 0, w, []api.Record{held(0, 0, -7), ended(0, false), held(1, 0, -4)})
	checkCounts(t, s, [3]int{10, 4, 0}, [3]int{20, 0, 0})
	checkHolds(t, s, [3]int{1, 0, -4})
	checkOver(t, s, 0, true, false)
}

// Of several that have a code the first is told, whichever it is.
func TestReplayTellsTheFirst(t *testing.T) {
	w := api.World{10, 20}
	kind, form, short := api.Record{}, api.Record{Kind: api.RHold, Done: true}, held(0, 0, -11)
	checkFault(t, 0, w, []api.Record{ended(1, true), short, form, kind}, api.ErrShort, 1)
	checkFault(t, 0, w, []api.Record{ended(1, true), form, kind, short}, api.ErrForm, 1)
	checkFault(t, 0, w, []api.Record{kind, short, form}, api.ErrKind, 0)
}

// What is handed in is read alone, as far as it is long, and is not kept.
func TestReplayOfALongerMemory(t *testing.T) {
	w := api.World{10, 20}
	memory := []api.Record{held(0, 0, -7), ended(1, true), {Kind: 77}, held(2, 0, -3)}
	was := slices.Clone(memory)
	s := replay(t, 0, w, memory[:2])
	if !slices.Equal(memory, was) {
		t.Errorf("changed: %+v, was %+v", memory, was)
	}
	before := ofShop(s)
	clear(memory)
	if got := ofShop(s); got != before {
		t.Errorf("kept: %s, was %s", got, before)
	}
	if code := s.Hold(0, api.Want{Counter: 0, Delta: -7}); code != 0 {
		t.Errorf("kept: code %d", code)
	}
}

// The shop that is answered is the asker's: what is done with it changes neither the keeper nor another replay.
func TestReplayIsANewShop(t *testing.T) {
	w := api.World{10, 20}
	k := must(t, 0, w, held(0, 0, -7), held(1, 1, 5), ended(2, false))
	l := k.Records()
	s, other := replay(t, 0, w, l), replay(t, 0, w, l)
	before := told(k)
	for deal := range api.MaxDeals {
		s.Hold(deal, api.Want{Counter: 1, Delta: 1})
		s.End(deal, deal%2 == 0)
	}
	if got := told(k); got != before {
		t.Errorf("keeper: %s, was %s", got, before)
	}
	if got := ofShop(other); got != ofShop(k) {
		t.Errorf("other: %s, want %s", got, ofShop(k))
	}
	crash(t, k)
}

func TestReplayOfALongList(t *testing.T) {
	var l []api.Record
	for range 50000 {
		l = append(l, held(0, 0, -7), held(1, 1, 5), ended(2, false))
	}
	s := replay(t, 0, api.World{10, 20}, l)
	checkCounts(t, s, [3]int{10, 7, 0}, [3]int{20, 0, 5})
	checkHolds(t, s, [3]int{0, 0, -7}, [3]int{1, 1, 5})
	checkFault(t, 0, api.World{10, 20}, append(l, held(0, 0, -6)), api.ErrOther, len(l))
}
