package broker_test

import (
	"slices"
	"testing"

	"handsel/api"
	"handsel/broker"
	"handsel/clerk"
)

// ring is a broker among the clerks of all shops.
type ring struct {
	*broker.Broker
	clerks []*clerk.Clerk
}

func newRing(t *testing.T, w api.World) ring {
	t.Helper()
	r := ring{Broker: broker.New()}
	for no := range api.Shops {
		c := clerk.New(no, w)
		if c == nil {
			t.Fatalf("clerk.New(%d, %v): nil", no, w)
		}
		r.clerks = append(r.clerks, c)
	}
	return r
}

// deliver brings all that is due to its clerk, in order, and what it answers to the broker.
func (r ring) deliver() {
	for _, m := range r.Due() {
		if answer, ok := r.clerks[m.Shop].Answer(m); ok {
			r.Hear(answer)
		}
	}
}

// world is what all counters have; free: nothing is held of any of them.
func (r ring) world() (w api.World, free bool) {
	free = true
	for no, c := range r.clerks {
		for i, count := range c.Counts() {
			w[no*api.PerShop+i] = count.Value
		}
		free = free && len(c.Holds()) == 0
	}
	return w, free
}

// Two deals want 20 and 40 of a counter that has 50: who is held first is done; the other one is not, and its other wants are held no longer.
func TestTwoDealsThatWantTooMuch(t *testing.T) {
	for _, first := range []int{20, 40} {
		r := newRing(t, api.World{2: 50})
		begin(t, r.Broker, want(5, first), want(2, -first))
		begin(t, r.Broker, want(5, 60-first), want(2, first-60))
		for range 2 {
			r.deliver()
		}
		checkDone(t, r.Broker, 0)
		checkState(t, r.Broker, 1, api.Not)
		checkDue(t, r.Broker)
		if w, free := r.world(); w != (api.World{2: 50 - first, 5: first}) || !free {
			t.Errorf("%v, free: %v", w, free)
		}
	}
}

// The broker forgets between the asks and the ends: what was held is held no longer, and the deal is not done anywhere.
func TestCrashAmongClerks(t *testing.T) {
	r := newRing(t, api.World{10, 10, 10, 10, 10, 10})
	l := []api.Want{want(0, -7), want(3, 5), want(4, 2)}
	begin(t, r.Broker, l...)
	late := slices.Clone(r.Due())
	for _, m := range late[:2] {
		answer, _ := r.clerks[m.Shop].Answer(m)
		r.Hear(answer)
	}
	r.Crash()
	r.deliver()
	// Asks that come late find the deal over, and say so.
	for _, m := range late {
		answer, _ := r.clerks[m.Shop].Answer(m)
		if answer.Yes {
			t.Errorf("%+v", answer)
		}
		nothing(t, r.Broker, answer)
	}
	checkDue(t, r.Broker)
	checkDone(t, r.Broker)
	if w, free := r.world(); w != (api.World{10, 10, 10, 10, 10, 10}) || !free {
		t.Errorf("%v, free: %v", w, free)
	}
}

// A deal that was done is done in all shops, though the broker forgets, and the ends come again.
func TestCrashBehindADoneDeal(t *testing.T) {
	r := newRing(t, api.World{10, 10, 10, 10, 10, 10})
	begin(t, r.Broker, want(0, -7), want(3, 5), want(4, 2))
	r.deliver()
	checkDone(t, r.Broker, 0)
	for range 3 {
		r.Crash()
		r.deliver()
		checkDue(t, r.Broker)
		if w, free := r.world(); w != (api.World{3, 10, 10, 15, 12, 10}) || !free {
			t.Errorf("%v, free: %v", w, free)
		}
	}
}
