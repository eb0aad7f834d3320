package keep_test

import (
	"fmt"
	"slices"
	"testing"

	"handsel/api"
	"handsel/keep"
	"handsel/shop"
)

// page is a keeper as the chapter's words have it, in the plainest form: a shop that never forgets, and all that it took.
type page struct {
	*shop.Shop
	lines []api.Record
}

func (p *page) do(r api.Record) int {
	code := 0
	switch {
	case r.Kind == api.RHold && r.Done, r.Kind == api.REnd && (r.Counter != 0 || r.Delta != 0):
		return api.ErrForm
	case r.Kind != api.RHold && r.Kind != api.REnd:
		return api.ErrKind
	case r.Kind == api.RHold:
		code = p.Hold(r.Deal, api.Want{Counter: r.Counter, Delta: r.Delta})
	default:
		code = p.End(r.Deal, r.Done)
	}
	if code == 0 {
		p.lines = append(p.lines, r)
	}
	return code
}

// records are the lines, each where it stands first.
func (p *page) records() []api.Record {
	var all []api.Record
	for i, r := range p.lines {
		if slices.Index(p.lines, r) == i {
			all = append(all, r)
		}
	}
	return all
}

func (p *page) told() string {
	return fmt.Sprint(ofShop(p.Shop), p.records())
}

// step is a record, or, if it crashes, a crash.
type step struct {
	api.Record
	crashes bool
}

// follow does the steps in a keeper and on a page, on which a crash is nothing, and tells where they part.
func follow(t *testing.T, no int, w api.World, steps []step) bool {
	k, p := keep.New(no, w), &page{Shop: shop.New(no, w)}
	for i, s := range steps {
		if s.crashes {
			k.Crash()
		} else if got, want := k.Do(s.Record), p.do(s.Record); got != want {
			t.Errorf("shop %d of %v: %+v: code %d, want %d", no, w, steps[:i+1], got, want)
			return false
		}
		if got, want := told(k), p.told(); got != want {
			t.Errorf("shop %d of %v: %+v: %s, want %s", no, w, steps[:i+1], got, want)
			return false
		}
	}
	return replays(t, no, w, k, p)
}

// replays holds a replay of the records, and of all lines with what came twice, against the keeper.
func replays(t *testing.T, no int, w api.World, k *keep.Keeper, p *page) bool {
	for _, l := range [][]api.Record{k.Records(), p.lines} {
		s, fault := keep.Replay(no, w, l)
		if fault != (api.Fault{}) {
			t.Errorf("shop %d of %v: Replay(%+v): %v", no, w, l, fault)
			return false
		}
		if got, want := ofShop(s), ofShop(k); got != want {
			t.Errorf("shop %d of %v: Replay(%+v): %s, want %s", no, w, l, got, want)
			return false
		}
	}
	return true
}

// All that can be done in four steps by two deals with few wants, on a counter that is soon empty and one that is soon full.
func TestAllShortRuns(t *testing.T) {
	some := []step{{crashes: true}, {Record: api.Record{Kind: api.RHold, Deal: 0, Counter: 0, Delta: -6, Done: true}}}
	for _, deal := range []int{0, lastDeal} {
		for _, r := range []api.Record{held(deal, 0, -6), held(deal, 0, -4), held(deal, 1, 6), ended(deal, true), ended(deal, false)} {
			some = append(some, step{Record: r})
		}
	}
	const length = 4
	steps := make([]step, length)
	var take func(n int) bool
	take = func(n int) bool {
		if n == length {
			return follow(t, 0, api.World{9, most - 9}, steps)
		}
		for _, s := range some {
			steps[n] = s
			if !take(n + 1) {
				return false
			}
		}
		return true
	}
	take(0)
}

// draw is a row of numbers that looks like none, and is the same each time.
type draw uint64

func (d *draw) below(n int) int {
	*d = *d*6364136223846793005 + 1442695040888963407
	return int(uint64(*d) >> 33 % uint64(n))
}

// step draws mostly what may be, and now and then what may not, or a crash.
func (d *draw) step(no, widest int) step {
	r := held(d.below(api.MaxDeals), 2*no+d.below(2), d.below(2*widest+1)-widest)
	if d.below(6) == 0 {
		r = ended(d.below(api.MaxDeals), d.below(2) == 0)
	}
	switch d.below(30) {
	case 0:
		r.Deal = d.below(api.MaxDeals+4) - 2
	case 1:
		r.Counter = d.below(api.Counters+4) - 2
	case 2:
		r.Delta = d.below(4*most) - 2*most
	case 3:
		r.Kind = d.below(6) - 1
	case 4:
		r.Done = !r.Done
	case 5, 6:
		return step{crashes: true}
	}
	return step{Record: r}
}

func (d *draw) world() api.World {
	var w api.World
	for i := range w {
		w[i] = []int{0, most, 50, d.below(most + 1)}[d.below(4)]
	}
	return w
}

func TestLongRuns(t *testing.T) {
	var d draw
	for n := range 2000 {
		no, w := n%api.Shops, d.world()
		var steps []step
		for range 40 {
			s := d.step(no, []int{3, 20, most}[n/3%3])
			steps = append(steps, s)
			if d.below(5) == 0 {
				steps = append(steps, steps[d.below(len(steps))])
			}
		}
		if !follow(t, no, w, steps) {
			return
		}
	}
}

// Lists that nobody kept: each record on its own, till the first that has a code.
func TestReplayOfDrawnLists(t *testing.T) {
	var d draw
	for n := range 3000 {
		no, w := n%api.Shops, d.world()
		var l []api.Record
		for range d.below(12) {
			if s := d.step(no, []int{3, 20, most}[n/3%3]); !s.crashes {
				l = append(l, s.Record)
			}
		}
		p, want := &page{Shop: shop.New(no, w)}, api.Fault{}
		for i, r := range l {
			if code := p.do(r); code != 0 {
				want = api.Fault{Code: code, At: i}
				break
			}
		}
		s, fault := keep.Replay(no, w, l)
		if fault != want || (s == nil) != (want.Code != 0) {
			t.Fatalf("Replay(%d, %v, %+v): %v, want %v; nil is %v", no, w, l, fault, want, s == nil)
		}
		if s != nil && ofShop(s) != ofShop(p.Shop) {
			t.Fatalf("Replay(%d, %v, %+v): %s, want %s", no, w, l, ofShop(s), ofShop(p.Shop))
		}
	}
}
