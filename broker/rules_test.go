package broker_test

import (
	"fmt"
	"slices"
	"testing"

	"handsel/api"
	"handsel/broker"
)

// step is one thing that is asked of a broker: by its kind a Begin of wants, mail that is heard, a Quit of a deal, or a Crash.
type step struct {
	kind  int
	wants []api.Want
	mail  api.Mail
	n     int
}

const (
	begins = iota
	hears
	quits
	crashes
)

// diary is a broker as the chapter's words have it, in the plainest form: all that was ever asked, from which the rest is reckoned anew each time.
type diary struct {
	steps []step
}

// began tells at which step the deal n began; -1: there is no such deal.
func (d *diary) began(n int) int {
	for at, s := range d.steps {
		if s.kind != begins {
			continue
		}
		if n == 0 {
			return at
		}
		n--
	}
	return -1
}

func (d *diary) len() int {
	n := 0
	for d.began(n) >= 0 {
		n++
	}
	return n
}

func (d *diary) wants(n int) []api.Want {
	if at := d.began(n); at >= 0 {
		return d.steps[at].wants
	}
	return nil
}

// said tells whether a say of this want came to the deal, from the want's shop, with Yes or without, in one of the steps.
func said(steps []step, n int, w api.Want, yes bool) bool {
	return slices.ContainsFunc(steps, func(s step) bool {
		return s.kind == hears && s.mail == say(n, w, yes)
	})
}

// decided tells how a deal stands, and at which step that was decided.
func (d *diary) decided(n int) (state, at int) {
	from := d.began(n)
	if from < 0 {
		return -1, -1
	}
	for at := from + 1; at < len(d.steps); at++ {
		steps := d.steps[from+1 : at+1]
		last := steps[len(steps)-1:]
		all := true
		for _, w := range d.wants(n) {
			if said(last, n, w, false) {
				return api.Not, at
			}
			all = all && said(steps, n, w, true)
		}
		switch s := last[0]; {
		case all:
			return api.Done, at
		case s.kind == quits && s.n == n, s.kind == crashes:
			return api.Not, at
		}
	}
	return api.Open, -1
}

// over tells whether an over came from the shop behind the step at which the deal was decided, and behind each crash.
func (d *diary) over(n, shop, at int) bool {
	is := false
	for _, s := range d.steps[at+1:] {
		switch {
		case s.kind == crashes:
			is = false
		case s.kind == hears && s.mail.Kind == api.MOver && s.mail.Deal == n && s.mail.Shop == shop:
			is = true
		}
	}
	return is
}

func (d *diary) done() []int {
	var all []int
	var when [api.MaxDeals]int
	for n := range d.len() {
		state, at := d.decided(n)
		if when[n] = at; state == api.Done {
			all = append(all, n)
		}
	}
	slices.SortFunc(all, func(n, m int) int { return when[n] - when[m] })
	return all
}

func (d *diary) due() []api.Mail {
	var all []api.Mail
	for n := range d.len() {
		state, at := d.decided(n)
		if state == api.Open {
			for _, w := range d.wants(n) {
				if !said(d.steps[d.began(n):], n, w, true) {
					all = append(all, ask(n, w))
				}
			}
			continue
		}
		for _, no := range shopsOf(d.wants(n)) {
			if !d.over(n, no, at) {
				all = append(all, end(n, no, state == api.Done))
			}
		}
	}
	return all
}

func (d *diary) told() string {
	text := fmt.Sprint(d.len(), d.done(), d.due())
	for n := -1; n <= d.len(); n++ {
		state, _ := d.decided(n)
		text += fmt.Sprint(" ", state, d.wants(n))
	}
	return text
}

// wrong is plan.Check's code of the wants that are drawn here, by the chapter of plan.
func wrong(l []api.Want) int {
	switch {
	case len(l) == 0:
		return api.ErrForm
	case len(l) > api.MaxWants:
		return api.ErrMany
	}
	for i, w := range l {
		switch {
		case w.Counter < 0 || w.Counter >= api.Counters:
			return api.ErrRange
		case w.Delta == 0:
			return api.ErrForm
		case w.Delta < -most || w.Delta > most:
			return api.ErrRange
		case slices.ContainsFunc(l[:i], func(o api.Want) bool { return o.Counter == w.Counter }):
			return api.ErrTwice
		}
	}
	return 0
}

// do writes a step down, unless it has a code, and tells what is answered.
func (d *diary) do(s step) [2]int {
	n := d.len()
	state, _ := d.decided(s.n)
	switch {
	case s.kind == begins && wrong(s.wants) != 0:
		return [2]int{0, wrong(s.wants)}
	case s.kind == begins && n >= api.MaxDeals:
		return [2]int{0, api.ErrFull}
	case s.kind == quits && state < 0:
		return [2]int{0, api.ErrNone}
	case s.kind == quits && state != api.Open:
		return [2]int{0, api.ErrOver}
	}
	d.steps = append(d.steps, s)
	if s.kind == begins {
		return [2]int{n, 0}
	}
	return [2]int{}
}

// doIn does a step in a broker, and tells what is answered.
func doIn(b *broker.Broker, s step) [2]int {
	switch s.kind {
	case begins:
		n, code := b.Begin(s.wants)
		return [2]int{n, code}
	case hears:
		b.Hear(s.mail)
	case quits:
		return [2]int{0, b.Quit(s.n)}
	case crashes:
		b.Crash()
	}
	return [2]int{}
}

// follow does the steps in a broker and in a diary, and tells where they part.
func follow(t *testing.T, steps []step) bool {
	b, d := broker.New(), &diary{}
	for i, s := range steps {
		if got, want := doIn(b, s), d.do(s); got != want {
			t.Errorf("%+v: %v, want %v", steps[:i+1], got, want)
			return false
		}
	}
	// Each beginning of a run is a run, too, and is looked at then.
	if got, want := told(b), d.told(); got != want {
		t.Errorf("%+v: %s, want %s", steps, got, want)
		return false
	}
	return true
}

// All that can come in few steps to two deals, one of two shops and one of one.
func TestAllShortRuns(t *testing.T) {
	two, one := []api.Want{want(4, 1), want(0, -1)}, []api.Want{want(0, -1)}
	some := []step{{kind: crashes}, {kind: begins, wants: one}}
	for n, l := range [][]api.Want{two, one} {
		some = append(some, step{kind: quits, n: n})
		for _, w := range l {
			some = append(some,
				step{kind: hears, mail: say(n, w, true)},
				step{kind: hears, mail: say(n, w, false)},
				step{kind: hears, mail: over(n, w.Counter/api.PerShop)})
		}
	}
	const length = 4
	var choose func(steps []step) bool
	choose = func(steps []step) bool {
		if !follow(t, steps) {
			return false
		}
		for i := 0; i < len(some) && len(steps) < 2+length; i++ {
			if !choose(append(slices.Clip(steps), some[i])) {
				return false
			}
		}
		return true
	}
	choose([]step{{kind: begins, wants: two}, {kind: begins, wants: one}})
}

// draw is a row of numbers that looks like none, and is the same each time.
type draw uint64

func (d *draw) below(n int) int {
	*d = *d*6364136223846793005 + 1442695040888963407
	return int(uint64(*d) >> 33 % uint64(n))
}

// wants draws mostly what may be, and now and then what may not.
func (d *draw) wants() []api.Want {
	counters := []int{0, 1, 2, 3, 4, 5}
	var l []api.Want
	for range 1 + d.below(api.MaxWants) {
		at := d.below(len(counters))
		l = append(l, want(counters[at], 1+d.below(most)-(most+1)*d.below(2)))
		counters = slices.Delete(counters, at, at+1)
	}
	switch at := d.below(len(l)); d.below(40) {
	case 0:
		l[at].Counter = d.below(api.Counters+4) - 2
	case 1:
		l[at].Delta = d.below(4*most) - 2*most
	case 2:
		l = append(l, l...)
	case 3:
		l = nil
	}
	return l
}

// mail draws an answer to something that is due, or was, and now and then what none is.
func (d *draw) mail(b *broker.Broker) api.Mail {
	n := d.below(max(b.Len(), 1))
	m := api.Mail{Kind: api.MOver, Deal: n, Shop: d.below(api.Shops)}
	if l := b.Wants(n); len(l) > 0 && d.below(3) > 0 {
		m = say(n, l[d.below(len(l))], d.below(12) > 0)
	}
	switch d.below(30) {
	case 0:
		m.Deal = d.below(api.MaxDeals+4) - 2
	case 1:
		m.Want.Counter = d.below(api.Counters+4) - 2
	case 2:
		m.Want.Delta = d.below(4*most) - 2*most
	case 3:
		m.Kind = d.below(8) - 2
	case 4:
		m.Shop = d.below(api.Shops+4) - 2
	case 5:
		m.Yes = !m.Yes
	}
	return m
}

func (d *draw) step(b *broker.Broker) step {
	switch d.below(24) {
	case 0, 1, 2, 3, 4:
		return step{kind: begins, wants: d.wants()}
	case 5:
		return step{kind: quits, n: d.below(api.MaxDeals+2) - 1}
	case 6:
		// Seldom, for a crash leaves no deal open that could be done.
		if d.below(3) == 0 {
			return step{kind: crashes}
		}
	}
	return step{kind: hears, mail: d.mail(b)}
}

// Answers that come once, twice and late, between deals that begin, are quit and forgotten.
func TestLongRuns(t *testing.T) {
	var d draw
	for range 600 {
		b, book := broker.New(), &diary{}
		for range 80 {
			s := d.step(b)
			if d.below(6) == 0 && len(book.steps) > 0 {
				s = book.steps[d.below(len(book.steps))]
			}
			if got, want := doIn(b, s), book.do(s); got != want {
				t.Fatalf("%+v behind %+v: %v, want %v", s, book.steps, got, want)
			}
			if got, want := told(b), book.told(); got != want {
				t.Fatalf("%+v behind %+v: %s, want %s", s, book.steps, got, want)
			}
		}
	}
}
