package post_test

import (
	"math/big"
	"slices"
	"testing"

	"handsel/api"
	"handsel/post"
)

// bag is a post as the chapter's words have it, in the plainest form: a list made anew by each call.
type bag []api.Mail

// number is where n stands among many, reckoned in numbers without bound; -1: nowhere.
func number(n, many int) int {
	if many == 0 {
		return -1
	}
	x := big.NewInt(int64(n))
	if n < 0 {
		x.Add(x, new(big.Int).Lsh(big.NewInt(1), 64))
	}
	return int(x.Mod(x, big.NewInt(int64(many))).Int64())
}

func (b bag) send(m api.Mail) (bag, bool) {
	if len(b) == most {
		return b, false
	}
	return append(slices.Clone(b), m), true
}

func (b bag) take(n int) (bag, api.Mail, bool) {
	at := number(n, len(b))
	if at < 0 {
		return b, api.Mail{}, false
	}
	var rest bag
	for i, m := range b {
		if i != at {
			rest = append(rest, m)
		}
	}
	return rest, b[at], true
}

func (b bag) double(n int) (bag, bool) {
	at := number(n, len(b))
	if at < 0 {
		return b, false
	}
	return b.send(b[at])
}

// Kinds of steps.
const (
	sends = iota
	takes
	doubles
)

// step is one call: n is the number that is asked for, or that of the mail.
type step struct{ kind, n int }

// follow does the steps in a post and in a bag, and tells where they part.
func follow(t *testing.T, first int, steps []step) bool {
	p, b := post.New(), bag(mails(first))
	for _, m := range b {
		p.Send(m)
	}
	for i, s := range steps {
		if !goes(p, &b, s) || p.Len() != len(b) || !slices.Equal(p.List(), b) {
			t.Errorf("%d mails, and %v: %s, want %+v", first, steps[:i+1], told(p), b)
			return false
		}
	}
	return true
}

// goes does one step in both, and tells whether they answer alike.
func goes(p *post.Post, b *bag, s step) bool {
	var want bool
	switch s.kind {
	case sends:
		*b, want = b.send(mail(s.n))
		return p.Send(mail(s.n)) == want
	case takes:
		var m api.Mail
		*b, m, want = b.take(s.n)
		got, ok := p.Take(s.n)
		return got == m && ok == want
	}
	*b, want = b.double(s.n)
	return p.Double(s.n) == want
}

// All that can be done in four steps with few numbers, from no mail on, and near as many as may be.
func TestAllShortRuns(t *testing.T) {
	some := []step{{sends, 50}, {sends, 51}}
	for _, kind := range []int{takes, doubles} {
		for _, n := range []int{0, 1, 2, -1} {
			some = append(some, step{kind, n})
		}
	}
	const length = 4
	steps := make([]step, length)
	var choose func(first, n int) bool
	choose = func(first, n int) bool {
		if n == length {
			return follow(t, first, steps)
		}
		for _, s := range some {
			steps[n] = s
			if !choose(first, n+1) {
				return false
			}
		}
		return true
	}
	for _, first := range []int{0, 1, 2, most - 2, most - 1, most} {
		if !choose(first, 0) {
			return
		}
	}
}

// Each number of some, with each count of mails that may be.
func TestAllCounts(t *testing.T) {
	for many := range most + 1 {
		numbers := append(farNumbers(), 1<<31-1, 1<<31, 1<<32, -1<<31, -1<<32)
		for n := -3; n <= 3; n++ {
			numbers = append(numbers, n, many+n, -many+n, 2*many+n, 1000*many+n)
		}
		for _, n := range numbers {
			if !follow(t, many, []step{{takes, n}}) || !follow(t, many, []step{{doubles, n}}) {
				return
			}
		}
	}
}

// draw is a row of numbers that looks like none, and is the same each time.
type draw uint64

func (d *draw) next() uint64 {
	*d = *d*6364136223846793005 + 1442695040888963407
	return uint64(*d) >> 32
}

func (d *draw) below(n int) int {
	return int(d.next() % uint64(n))
}

// number draws mostly what is near, and now and then whatever an int can have.
func (d *draw) number() int {
	if d.below(3) == 0 {
		return int(d.next()<<32 | d.next())
	}
	return d.below(3*most) - most
}

// step draws sends and doubles more often than takes, or less, as it is told.
func (d *draw) step(takesOf10 int) step {
	if d.below(10) < takesOf10 {
		return step{takes, d.number()}
	}
	if d.below(3) == 0 {
		return step{doubles, d.number()}
	}
	return step{sends, d.below(100)}
}

// Posts that fill up, that stay about as they are, and that run dry, one behind the other.
func TestLongRuns(t *testing.T) {
	var d draw
	for n := range 300 {
		var steps []step
		for i := range 400 {
			steps = append(steps, d.step([]int{2, 5, 8}[(n+i/80)%3]))
		}
		if !follow(t, d.below(most+1), steps) {
			return
		}
	}
}
