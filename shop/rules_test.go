package shop_test

import (
	"fmt"
	"testing"

	"handsel/api"
	"handsel/count"
	"handsel/shop"
)

// book is a shop as the chapter's words have it, in the plainest form: all that was ever held stands in it, and all else is reckoned from that anew.
type book struct {
	no    int
	first api.World
	lines []line
	ends  map[int]string
}

type line struct{ deal, counter, delta int }

func newBook(no int, w api.World) *book {
	return &book{no: no, first: w, ends: map[int]string{}}
}

func ending(done bool) string {
	if done {
		return "done"
	}
	return "not"
}

// count reckons a counter from what it had first and all that was held of it.
func (b *book) count(counter int) api.Count {
	c := api.Count{Value: b.first[counter]}
	for _, l := range b.lines {
		if l.counter != counter {
			continue
		}
		switch b.ends[l.deal] {
		case "done":
			c.Value += l.delta
		case "":
			c.In += max(l.delta, 0)
			c.Out += max(-l.delta, 0)
		}
	}
	return c
}

func (b *book) counts() [api.PerShop]api.Count {
	return [api.PerShop]api.Count{b.count(2 * b.no), b.count(2*b.no + 1)}
}

func (b *book) holds() []api.Hold {
	var all []api.Hold
	for _, l := range b.lines {
		if b.ends[l.deal] == "" {
			all = append(all, api.Hold{Deal: l.deal, Counter: l.counter, Delta: l.delta})
		}
	}
	return all
}

func (b *book) told() string {
	text := fmt.Sprint(b.counts(), b.holds())
	for deal := range api.MaxDeals {
		text += fmt.Sprint(" ", b.ends[deal] != "", b.ends[deal] == "done")
	}
	return text
}

func (b *book) hold(l line) int {
	switch {
	case l.deal < 0 || l.deal > 7:
		return api.ErrRange
	case l.counter < 0 || l.counter > 5:
		return api.ErrRange
	case l.delta == 0:
		return api.ErrForm
	case l.delta < -100 || l.delta > 100:
		return api.ErrRange
	case l.counter != 2*b.no && l.counter != 2*b.no+1:
		return api.ErrRange
	case b.ends[l.deal] != "":
		return api.ErrOver
	}
	for _, ahead := range b.lines {
		if ahead == l {
			return 0
		}
		if ahead.deal == l.deal && ahead.counter == l.counter {
			return api.ErrOther
		}
	}
	switch c := b.count(l.counter); {
	case l.delta < 0 && c.Out-l.delta > c.Value:
		return api.ErrShort
	case l.delta > 0 && c.In+l.delta > 100-c.Value:
		return api.ErrFull
	}
	b.lines = append(b.lines, l)
	return 0
}

func (b *book) end(deal int, done bool) int {
	switch was := b.ends[deal]; {
	case deal < 0 || deal > 7:
		return api.ErrRange
	case was == "":
		b.ends[deal] = ending(done)
		return 0
	case was == ending(done):
		return 0
	}
	return api.ErrOther
}

// act is a Hold, or, if it ends, an End.
type act struct {
	line
	ends, done bool
}

func (a act) ofShop(s *shop.Shop) int {
	if a.ends {
		return s.End(a.deal, a.done)
	}
	return hold(s, a.deal, a.counter, a.delta)
}

func (a act) ofBook(b *book) int {
	if a.ends {
		return b.end(a.deal, a.done)
	}
	return b.hold(a.line)
}

// follow does the acts in a shop and in a book, and tells where they part.
func follow(t *testing.T, no int, w api.World, acts []act) bool {
	s, b := shop.New(no, w), newBook(no, w)
	for i, a := range acts {
		got, want := a.ofShop(s), a.ofBook(b)
		if got != want {
			t.Errorf("shop %d of %v: %+v: code %d, want %d", no, w, acts[:i+1], got, want)
			return false
		}
		if got, want := told(s), b.told(); got != want {
			t.Errorf("shop %d of %v: %+v: %s, want %s", no, w, acts[:i+1], got, want)
			return false
		}
		for _, c := range s.Counts() {
			if count.Check(c) != 0 || count.Low(c) < 0 || count.High(c) > most {
				t.Errorf("shop %d of %v: %+v: %v may not be", no, w, acts[:i+1], c)
				return false
			}
		}
	}
	return true
}

// All that can be done in four steps by two deals with few wants, on a counter that is soon empty and one that is soon full.
func TestAllShortRuns(t *testing.T) {
	var some []act
	for _, deal := range []int{0, lastDeal} {
		for _, w := range [][2]int{{0, -6}, {0, -4}, {1, 6}, {1, -6}} {
			some = append(some, act{line: line{deal, w[0], w[1]}})
		}
		some = append(some, act{line: line{deal: deal}, ends: true, done: true}, act{line: line{deal: deal}, ends: true})
	}
	const steps = 4
	acts := make([]act, steps)
	var run func(n int) bool
	run = func(n int) bool {
		if n == steps {
			return follow(t, 0, api.World{9, most - 9}, acts)
		}
		for _, a := range some {
			acts[n] = a
			if !run(n + 1) {
				return false
			}
		}
		return true
	}
	run(0)
}

// draw is a row of numbers that looks like none, and is the same each time.
type draw uint64

func (d *draw) below(n int) int {
	*d = *d*6364136223846793005 + 1442695040888963407
	return int(uint64(*d) >> 33 % uint64(n))
}

// act draws mostly what may be, and now and then what may not.
func (d *draw) act(no, widest int) act {
	a := act{line: line{deal: d.below(api.MaxDeals), counter: 2*no + d.below(2), delta: d.below(2*widest+1) - widest}}
	if d.below(6) == 0 {
		a.ends, a.done = true, d.below(2) == 0
	}
	switch d.below(20) {
	case 0:
		a.deal = d.below(api.MaxDeals+4) - 2
	case 1:
		a.counter = d.below(api.Counters+4) - 2
	case 2:
		a.delta = d.below(4*most) - 2*most
	}
	return a
}

func (d *draw) world() api.World {
	var w api.World
	for i := range w {
		w[i] = []int{0, most, 50, d.below(most + 1)}[d.below(4)]
	}
	return w
}

func TestLongRuns(t *testing.T) {
	var d draw
	for n := range 3000 {
		no, w := n%api.Shops, d.world()
		acts := make([]act, 40)
		for i := range acts {
			acts[i] = d.act(no, []int{3, 20, most}[n/3%3])
		}
		if !follow(t, no, w, acts) {
			return
		}
	}
}
