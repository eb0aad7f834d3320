package town_test

import (
	"fmt"
	"slices"

	"handsel/api"
)

// ledger is a town as the chapters' words have it, in the plainest form: lists of all that was decided, heard, written down and sent, from which the rest is reckoned anew each time.
type ledger struct {
	first  api.World
	wants  [][]api.Want // of the deals, by their numbers
	states []int
	done   []int
	heard  []api.Mail // what the broker knows of: says with Yes of deals that are open, overs of the others
	lines  [api.Shops][]api.Record
	mail   []api.Mail
}

func shopOf(w api.Want) int {
	return w.Counter / api.PerShop
}

// shopsOf are the shops of the wants' counters, rising, each once.
func shopsOf(l []api.Want) []int {
	var all []int
	for s := range api.Shops {
		if slices.ContainsFunc(l, func(w api.Want) bool { return shopOf(w) == s }) {
			all = append(all, s)
		}
	}
	return all
}

func (b *ledger) over(s, deal int) (over, done bool) {
	for _, r := range b.lines[s] {
		if r.Kind == api.REnd && r.Deal == deal {
			return true, r.Done
		}
	}
	return false, false
}

func (b *ledger) holds(s int) []api.Hold {
	var all []api.Hold
	for _, r := range b.lines[s] {
		if over, _ := b.over(s, r.Deal); r.Kind == api.RHold && !over {
			all = append(all, api.Hold{Deal: r.Deal, Counter: r.Counter, Delta: r.Delta})
		}
	}
	return all
}

func (b *ledger) count(counter int) api.Count {
	s := counter / api.PerShop
	c := api.Count{Value: b.first[counter]}
	for _, r := range b.lines[s] {
		if _, done := b.over(s, r.Deal); r.Kind == api.RHold && r.Counter == counter && done {
			c.Value += r.Delta
		}
	}
	for _, h := range b.holds(s) {
		if h.Counter == counter {
			c.Out += max(-h.Delta, 0)
			c.In += max(h.Delta, 0)
		}
	}
	return c
}

// asked is an ask that comes to its shop, and what is said of it.
func (b *ledger) asked(m api.Mail) api.Mail {
	s, w := m.Shop, m.Want
	is := slices.Contains(b.holds(s), api.Hold{Deal: m.Deal, Counter: w.Counter, Delta: w.Delta})
	over, _ := b.over(s, m.Deal)
	c := b.count(w.Counter)
	room := w.Delta < 0 && c.Value-c.Out+w.Delta >= 0 || w.Delta > 0 && c.Value+c.In+w.Delta <= most
	if !is && !over && room {
		is = true
		b.lines[s] = append(b.lines[s], api.Record{Kind: api.RHold, Deal: m.Deal, Counter: w.Counter, Delta: w.Delta})
	}
	return say(m.Deal, w, is)
}

// ended is an end that comes to its shop: no town sends one that is otherwise than the shop knows.
func (b *ledger) ended(m api.Mail) api.Mail {
	if was, _ := b.over(m.Shop, m.Deal); !was {
		b.lines[m.Shop] = append(b.lines[m.Shop], api.Record{Kind: api.REnd, Deal: m.Deal, Done: m.Yes})
	}
	return over(m.Deal, m.Shop, m.Yes)
}

// hears is an answer that comes to the broker.
func (b *ledger) hears(m api.Mail) {
	open := b.states[m.Deal] == api.Open
	switch {
	case open == (m.Kind == api.MOver):
		return
	case open && !m.Yes:
		b.states[m.Deal] = api.Not
		return
	}
	b.heard = append(b.heard, m)
	if open && len(b.asks(m.Deal)) == 0 {
		b.states[m.Deal] = api.Done
		b.done = append(b.done, m.Deal)
	}
}

func (b *ledger) asks(n int) []api.Mail {
	var all []api.Mail
	for _, w := range b.wants[n] {
		if !slices.Contains(b.heard, say(n, w, true)) {
			all = append(all, ask(n, w))
		}
	}
	return all
}

func (b *ledger) ends(n int) []api.Mail {
	var all []api.Mail
	done := b.states[n] == api.Done
	for _, s := range shopsOf(b.wants[n]) {
		if !slices.Contains(b.heard, over(n, s, done)) {
			all = append(all, end(n, s, done))
		}
	}
	return all
}

func (b *ledger) due() []api.Mail {
	var all []api.Mail
	for n, state := range b.states {
		if state == api.Open {
			all = append(all, b.asks(n)...)
		} else {
			all = append(all, b.ends(n)...)
		}
	}
	return all
}

// send sends one more, if there is room.
func (b *ledger) send(m api.Mail) bool {
	if len(b.mail) == api.MaxMail {
		return false
	}
	b.mail = append(b.mail, m)
	return true
}

func (b *ledger) tick() {
	for _, m := range b.due() {
		b.send(m)
	}
}

// take takes the mail at a place.
func (b *ledger) take(at int) api.Mail {
	m := b.mail[at]
	b.mail = slices.Concat(b.mail[:at], b.mail[at+1:])
	return m
}

func (b *ledger) deliver(at int) {
	switch m := b.take(at); m.Kind {
	case api.MAsk:
		b.send(b.asked(m))
	case api.MEnd:
		b.send(b.ended(m))
	default:
		b.hears(m)
	}
}

// checkWants is plan.Check's code of wants.
func checkWants(l []api.Want) int {
	switch {
	case len(l) == 0:
		return api.ErrForm
	case len(l) > api.MaxWants:
		return api.ErrMany
	}
	for i, w := range l {
		switch {
		case w.Counter < 0 || w.Counter >= api.Counters:
			return api.ErrRange
		case w.Delta == 0:
			return api.ErrForm
		case w.Delta < -most || w.Delta > most:
			return api.ErrRange
		case slices.ContainsFunc(l[:i], func(o api.Want) bool { return o.Counter == w.Counter }):
			return api.ErrTwice
		}
	}
	return 0
}

func (b *ledger) begin(l []api.Want) int {
	if code := checkWants(l); code != 0 {
		return code
	}
	if len(b.wants) == api.MaxDeals {
		return api.ErrFull
	}
	b.wants = append(b.wants, slices.Clone(l))
	b.states = append(b.states, api.Open)
	return 0
}

func (b *ledger) quit(n int) int {
	switch {
	case n < 0 || n >= len(b.states):
		return api.ErrNone
	case b.states[n] != api.Open:
		return api.ErrOver
	}
	b.states[n] = api.Not
	return 0
}

func (b *ledger) brokerForgets() {
	b.heard = nil
	for n, state := range b.states {
		if state == api.Open {
			b.states[n] = api.Not
		}
	}
}

// mailStep is a step of one mail.
func (b *ledger) mailStep(x api.Step) int {
	if len(b.mail) == 0 {
		return api.ErrNone
	}
	at := place(x.N, len(b.mail))
	switch {
	case x.Kind == api.SDeliver:
		b.deliver(at)
	case x.Kind == api.SLose:
		b.take(at)
	case !b.send(b.mail[at]):
		return api.ErrFull
	}
	return 0
}

func (b *ledger) step(x api.Step) int {
	switch x.Kind {
	case api.SBegin:
		return b.begin(x.Wants)
	case api.STick:
		b.tick()
	case api.SDeliver, api.SLose, api.SDouble:
		return b.mailStep(x)
	case api.SQuit:
		return b.quit(x.N)
	case api.SShop:
		// A shop knows all again from its lines: here it never knew anything else.
		if x.N < 0 || x.N >= api.Shops {
			return api.ErrRange
		}
	case api.SBroker:
		b.brokerForgets()
	default:
		return api.ErrKind
	}
	return 0
}

func (b *ledger) calm() int {
	sent := 0
	for len(b.mail) > 0 || len(b.due()) > 0 {
		if len(b.mail) > 0 {
			b.deliver(0)
			continue
		}
		b.tick()
		sent++
	}
	return sent
}

func (b *ledger) world() api.World {
	var w api.World
	for n := range w {
		w[n] = b.count(n).Value
	}
	return w
}

// serial is without code: that no counter is beyond its bounds is looked for elsewhere.
func (b *ledger) serial() api.World {
	w := b.first
	for _, n := range b.done {
		for _, want := range b.wants[n] {
			w[want.Counter] += want.Delta
		}
	}
	return w
}

// told is all that a town tells, told as by the town.
func (b *ledger) told() string {
	text := fmt.Sprint(len(b.wants), b.done, b.due(), b.mail, b.world(), b.serial(), 0)
	text += fmt.Sprint(" ", -1, []api.Want(nil))
	for n, l := range b.wants {
		text += fmt.Sprint(" ", b.states[n], l)
	}
	text += fmt.Sprint(" ", -1, []api.Want(nil))
	for s := range api.Shops {
		var counts [api.PerShop]api.Count
		for i := range counts {
			counts[i] = b.count(s*api.PerShop + i)
		}
		text += fmt.Sprint(" ", counts, b.holds(s), b.lines[s])
		for deal := range api.MaxDeals {
			over, done := b.over(s, deal)
			text += fmt.Sprint(" ", over, done)
		}
	}
	return text
}
