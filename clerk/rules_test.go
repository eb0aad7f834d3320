package clerk_test

import (
	"fmt"
	"slices"
	"testing"

	"handsel/api"
	"handsel/clerk"
)

// book is a clerk as the chapters' words have it, in the plainest form: all that it took, from which the rest is reckoned anew each time.
type book struct {
	no    int
	first api.World
	lines []api.Record
}

func (b *book) over(deal int) (over, done bool) {
	for _, r := range b.lines {
		if r.Kind == api.REnd && r.Deal == deal {
			return true, r.Done
		}
	}
	return false, false
}

func (b *book) holds() []api.Hold {
	var all []api.Hold
	for _, r := range b.lines {
		if over, _ := b.over(r.Deal); r.Kind == api.RHold && !over {
			all = append(all, api.Hold{Deal: r.Deal, Counter: r.Counter, Delta: r.Delta})
		}
	}
	return all
}

func (b *book) count(counter int) api.Count {
	c := api.Count{Value: b.first[counter]}
	for _, r := range b.lines {
		if _, done := b.over(r.Deal); r.Kind == api.RHold && r.Counter == counter && done {
			c.Value += r.Delta
		}
	}
	for _, h := range b.holds() {
		if h.Counter == counter {
			c.Out += max(-h.Delta, 0)
			c.In += max(h.Delta, 0)
		}
	}
	return c
}

// takes tells whether a want of a deal may be held that is not held yet.
func (b *book) takes(deal int, w api.Want) bool {
	over, _ := b.over(deal)
	switch {
	case over, deal < 0, deal >= api.MaxDeals:
		return false
	case w.Counter != 2*b.no && w.Counter != 2*b.no+1:
		return false
	case w.Delta == 0, w.Delta < -most, w.Delta > most:
		return false
	}
	for _, h := range b.holds() {
		if h.Deal == deal && h.Counter == w.Counter {
			return false
		}
	}
	c := b.count(w.Counter)
	return w.Delta < 0 && c.Value-c.Out+w.Delta >= 0 || w.Delta > 0 && c.Value+c.In+w.Delta <= most
}

func (b *book) answer(m api.Mail) (api.Mail, bool) {
	switch {
	case m.Shop == b.no && m.Kind == api.MAsk:
		is := slices.Contains(b.holds(), api.Hold{Deal: m.Deal, Counter: m.Want.Counter, Delta: m.Want.Delta})
		if !is && b.takes(m.Deal, m.Want) {
			is = true
			b.lines = append(b.lines, held(m.Deal, m.Want.Counter, m.Want.Delta))
		}
		return api.Mail{Kind: api.MSay, Deal: m.Deal, Shop: m.Shop, Want: m.Want, Yes: is}, true
	case m.Shop == b.no && m.Kind == api.MEnd && m.Deal >= 0 && m.Deal < api.MaxDeals:
		over, done := b.over(m.Deal)
		if over && done != m.Yes {
			return api.Mail{}, false
		}
		if !over {
			b.lines = append(b.lines, ended(m.Deal, m.Yes))
		}
		return api.Mail{Kind: api.MOver, Deal: m.Deal, Shop: m.Shop, Want: m.Want, Yes: m.Yes}, true
	}
	return api.Mail{}, false
}

func (b *book) told() string {
	text := fmt.Sprint([]api.Count{b.count(2 * b.no), b.count(2*b.no + 1)}, b.holds())
	for deal := range api.MaxDeals {
		over, done := b.over(deal)
		text += fmt.Sprint(" ", over, done)
	}
	return fmt.Sprint(text, b.lines)
}

// step is mail that comes, or, if it crashes, a crash.
type step struct {
	api.Mail
	crashes bool
}

// follow does the steps in a clerk and in a book, in which a crash is nothing, and tells where they part.
func follow(t *testing.T, no int, w api.World, steps []step) bool {
	c, b := must(t, no, w), &book{no: no, first: w}
	for i, s := range steps {
		if !goes(c, b, s) {
			t.Errorf("shop %d of %v: %+v: another answer than the book's", no, w, steps[:i+1])
			return false
		}
		if got, want := told(c), b.told(); got != want {
			t.Errorf("shop %d of %v: %+v: %s, want %s", no, w, steps[:i+1], got, want)
			return false
		}
	}
	return true
}

// goes does one step in both, and tells whether they answer alike.
func goes(c *clerk.Clerk, b *book, s step) bool {
	if s.crashes {
		c.Crash()
		return true
	}
	got, ok := c.Answer(s.Mail)
	want, is := b.answer(s.Mail)
	return got == want && ok == is
}

// All that can come in four steps of two deals with few wants, on a counter that is soon empty and one that is soon full.
func TestAllShortRuns(t *testing.T) {
	some := []step{{crashes: true}, {Mail: ask(1, 0, 0, -6)}, {Mail: end(1, 0, true)}}
	for _, deal := range []int{0, lastDeal} {
		for _, m := range []api.Mail{ask(0, deal, 0, -6), ask(0, deal, 0, -4), ask(0, deal, 1, 6), end(0, deal, true), end(0, deal, false)} {
			some = append(some, step{Mail: m})
		}
	}
	const length = 4
	steps := make([]step, length)
	var choose func(n int) bool
	choose = func(n int) bool {
		if n == length {
			return follow(t, 0, api.World{9, most - 9}, steps)
		}
		for _, s := range some {
			steps[n] = s
			if !choose(n + 1) {
				return false
			}
		}
		return true
	}
	choose(0)
}

// draw is a row of numbers that looks like none, and is the same each time.
type draw uint64

func (d *draw) below(n int) int {
	*d = *d*6364136223846793005 + 1442695040888963407
	return int(uint64(*d) >> 33 % uint64(n))
}

// step draws mostly what may be, and now and then what may not, or a crash.
func (d *draw) step(no, widest int) step {
	m := ask(no, d.below(api.MaxDeals), 2*no+d.below(2), d.below(2*widest+1)-widest)
	if d.below(6) == 0 {
		m.Kind = api.MEnd
	}
	m.Yes = d.below(2) == 0
	switch d.below(30) {
	case 0:
		m.Deal = d.below(api.MaxDeals+4) - 2
	case 1:
		m.Want.Counter = d.below(api.Counters+4) - 2
	case 2:
		m.Want.Delta = d.below(4*most) - 2*most
	case 3:
		m.Kind = d.below(8) - 2
	case 4:
		m.Shop = d.below(api.Shops+4) - 2
	case 5, 6:
		return step{crashes: true}
	}
	return step{Mail: m}
}

func (d *draw) world() api.World {
	var w api.World
	for i := range w {
		w[i] = []int{0, most, 50, d.below(most + 1)}[d.below(4)]
	}
	return w
}

// Mail that comes once, twice, and late, between crashes.
func TestLongRuns(t *testing.T) {
	var d draw
	for n := range 1500 {
		no, w := n%api.Shops, d.world()
		var steps []step
		for range 40 {
			steps = append(steps, d.step(no, []int{3, 20, most}[n/3%3]))
			if d.below(5) == 0 {
				steps = append(steps, steps[d.below(len(steps))])
			}
		}
		if !follow(t, no, w, steps) {
			return
		}
	}
}
