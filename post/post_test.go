package post_test

import (
	"fmt"
	"math"
	"slices"
	"testing"

	"handsel/api"
	"handsel/post"
)

const most = api.MaxMail

// farNumbers are the edges of what an int can have.
func farNumbers() []int {
	return []int{math.MinInt, math.MinInt + 1, math.MinInt / 2, math.MaxInt/2 + 1, math.MaxInt - 1, math.MaxInt}
}

// mail is the one with the number n of those that all differ.
func mail(n int) api.Mail {
	return api.Mail{Kind: 1 + n%4, Deal: n, Shop: n % api.Shops, Want: api.Want{Counter: n % api.Counters, Delta: n - 20}, Yes: n%2 == 0}
}

// mails are the first ones of them.
func mails(many int) []api.Mail {
	var all []api.Mail
	for n := range many {
		all = append(all, mail(n))
	}
	return all
}

// oddMails are such as nobody answers: a post carries them all the same.
func oddMails() []api.Mail {
	all := []api.Mail{{}, {Yes: true}, {Kind: -1}, {Kind: 5}, {Kind: api.MAsk, Deal: -1}, {Kind: api.MEnd, Shop: api.Shops}}
	for _, n := range farNumbers() {
		all = append(all, api.Mail{Kind: n, Deal: n, Shop: n, Want: api.Want{Counter: n, Delta: n}, Yes: n < 0})
	}
	return all
}

// told is all that a post tells.
func told(p *post.Post) string {
	return fmt.Sprintf("%d %+v", p.Len(), p.List())
}

// must makes a post, and sends all that is given.
func must(t *testing.T, all ...api.Mail) *post.Post {
	t.Helper()
	p := post.New()
	if p == nil {
		t.Fatal("New: nil")
	}
	for _, m := range all {
		send(t, p, m, true)
	}
	return p
}

// check holds what is on its way against what should be.
func check(t *testing.T, p *post.Post, want ...api.Mail) {
	t.Helper()
	if got := p.Len(); got != len(want) {
		t.Errorf("Len: %d, want %d", got, len(want))
	}
	if got := p.List(); !slices.Equal(got, want) {
		t.Errorf("List: %+v, want %+v", got, want)
	}
}

// send asks for a Send, and looks that a lost one changes nothing.
func send(t *testing.T, p *post.Post, m api.Mail, want bool) {
	t.Helper()
	all := p.List()
	if ok := p.Send(m); ok != want {
		t.Errorf("Send(%+v) behind %d: %v, want %v", m, len(all), ok, want)
	}
	if want {
		all = append(all, m)
	}
	check(t, p, all...)
}

// take asks for a Take of the number n, which should be the one at a place of the list.
func take(t *testing.T, p *post.Post, n, place int) {
	t.Helper()
	all := p.List()
	if m, ok := p.Take(n); !ok || m != all[place] {
		t.Errorf("Take(%d) of %d: %+v %v, want the one at %d: %+v", n, len(all), m, ok, place, all[place])
	}
	check(t, p, append(all[:place:place], all[place+1:]...)...)
}

// takeNone asks for a Take of a post without mail.
func takeNone(t *testing.T, p *post.Post, n int) {
	t.Helper()
	if m, ok := p.Take(n); ok || m != (api.Mail{}) {
		t.Errorf("Take(%d) of none: %+v %v", n, m, ok)
	}
	check(t, p)
}

// double asks for a Double of the number n, which should be the one at a place of the list.
func double(t *testing.T, p *post.Post, n, place int) {
	t.Helper()
	all := p.List()
	if !p.Double(n) {
		t.Errorf("Double(%d) of %d: false", n, len(all))
	}
	check(t, p, append(all, all[place])...)
}

// doubleNot asks for a Double that should be false, and change nothing.
func doubleNot(t *testing.T, p *post.Post, n int) {
	t.Helper()
	all := p.List()
	if p.Double(n) {
		t.Errorf("Double(%d) of %d: true", n, len(all))
	}
	check(t, p, all...)
}

func TestNew(t *testing.T) {
	check(t, must(t))
}

func TestPostsShareNothing(t *testing.T) {
	one, other := must(t, mails(3)...), must(t)
	check(t, other)
	send(t, other, mail(7), true)
	take(t, one, 0, 0)
	double(t, one, 0, 0)
	check(t, other, mail(7))
	take(t, other, 0, 0)
	check(t, one, mail(1), mail(2), mail(1))
	check(t, must(t))
}

// One more, behind all others, till there are as many as may be; from then on each is lost.
func TestSend(t *testing.T) {
	p := must(t)
	for n := range most {
		check(t, p, mails(n)...)
		if !p.Send(mail(n)) {
			t.Errorf("Send behind %d: false", n)
		}
	}
	for range 3 {
		send(t, p, mail(most), false)
	}
	send(t, p, mail(0), false)
	send(t, p, api.Mail{}, false)
	check(t, p, mails(most)...)
}

// What was lost stays so, when there is room again, and what comes then is taken.
func TestSendWhenThereIsRoomAgain(t *testing.T) {
	p := must(t, mails(most)...)
	send(t, p, mail(most), false)
	take(t, p, 3, 3)
	want := append(mails(3), mails(most)[4:]...)
	check(t, p, want...)
	send(t, p, mail(most+1), true)
	send(t, p, mail(most+2), false)
	check(t, p, append(want, mail(most+1))...)
}

// Whatever mail is like, it comes as it was sent; the zero one, too, is one.
func TestOddMail(t *testing.T) {
	all := oddMails()
	for _, m := range all {
		p := must(t, m)
		double(t, p, 0, 0)
		check(t, p, m, m)
		take(t, p, 0, 0)
		take(t, p, 0, 0)
		takeNone(t, p, 0)
	}
	p := must(t, all...)
	check(t, p, all...)
	for range all {
		take(t, p, 0, 0)
	}
	takeNone(t, p, 0)
}

// Mails that differ in one thing alone are not taken for each other.
func TestMailThatIsNearlySo(t *testing.T) {
	m := api.Mail{Kind: api.MSay, Deal: 1, Shop: 1, Want: api.Want{Counter: 2, Delta: 3}}
	all := []api.Mail{m, m, m, m, m, m, m}
	all[1].Kind = api.MAsk
	all[2].Deal = 2
	all[3].Shop = 2
	all[4].Want.Counter = 3
	all[5].Want.Delta = -3
	all[6].Yes = true
	for place := range all {
		p := must(t, all...)
		double(t, p, place, place)
		take(t, p, place, place)
	}
}

// Mails that are just alike are counted each, and go one by one.
func TestMailThatIsJustAlike(t *testing.T) {
	m, other := mail(1), mail(2)
	p := must(t, m, m, other, m)
	check(t, p, m, m, other, m)
	take(t, p, 3, 3)
	check(t, p, m, m, other)
	take(t, p, 0, 0)
	check(t, p, m, other)
	send(t, p, m, true)
	double(t, p, 0, 0)
	check(t, p, m, other, m, m)
	for left := 4; left > 0; left-- {
		take(t, p, left-1, left-1)
	}
	takeNone(t, p, 0)
	for range most {
		send(t, p, m, true)
	}
	send(t, p, m, false)
}

// Numbers near the ends of a post, and such as go round more than once, with how many there are, and where they stand.
func TestTakeAndDoubleOfANumber(t *testing.T) {
	cases := []struct{ many, n, place int }{
		{1, 0, 0}, {1, 1, 0}, {1, -1, 0}, {1, 7, 0}, {1, math.MinInt, 0}, {1, math.MaxInt, 0},
		{2, 0, 0}, {2, 1, 1}, {2, 2, 0}, {2, 3, 1}, {2, -1, 1}, {2, -2, 0}, {2, math.MinInt, 0}, {2, math.MaxInt, 1},
		{3, 0, 0}, {3, 1, 1}, {3, 2, 2}, {3, 3, 0}, {3, 4, 1}, {3, 8, 2}, {3, 300, 0},
		// 2^64 is one more than a multiple of 3, so -1 stands where 0 does; 2^63 is two more.
		{3, -1, 0}, {3, -2, 2}, {3, -3, 1}, {3, -4, 0}, {3, math.MinInt, 2}, {3, math.MinInt + 1, 0}, {3, math.MaxInt, 1}, {3, math.MaxInt - 1, 0},
		{3, 1 << 32, 1}, {3, -1 << 32, 0}, {3, 1<<32 - 1, 0},
		{5, -1, 0}, {5, -2, 4}, {5, math.MinInt, 3}, {5, math.MaxInt, 2},
		{7, -1, 1}, {7, -2, 0}, {7, -7, 2}, {7, math.MinInt, 1}, {7, math.MaxInt, 0},
		{most - 1, 0, 0}, {most - 1, most - 2, most - 2}, {most - 1, most - 1, 0}, {most - 1, most, 1}, {most - 1, 5*(most-1) + 4, 4},
		// 2^64 ends in 616, and 2^63 in 808: 40 goes into each thousand.
		{most, 0, 0}, {most, most - 1, most - 1}, {most, most, 0}, {most, most + 1, 1}, {most, 1000*most + 17, 17},
		{most, -1, 15}, {most, -2, 14}, {most, -most, 16}, {most, math.MinInt, 8}, {most, math.MinInt + 1, 9}, {most, math.MaxInt, 7}, {most, math.MaxInt - 1, 6},
		{most, 1 << 32, 16}, {most, 1<<32 - 1, 15},
	}
	for _, x := range cases {
		take(t, must(t, mails(x.many)...), x.n, x.place)
		p := must(t, mails(x.many)...)
		if x.many == most {
			doubleNot(t, p, x.n)
			continue
		}
		double(t, p, x.n, x.place)
		check(t, p, append(mails(x.many), mail(x.place))...)
	}
}

// The very one comes, once, and the others keep their order: the first, each in the middle, and the last.
func TestTake(t *testing.T) {
	for _, many := range []int{1, 2, 3, 5, most - 1, most} {
		for place := range many {
			p := must(t, mails(many)...)
			if m, ok := p.Take(place); !ok || m != mail(place) {
				t.Errorf("Take(%d) of %d: %+v %v", place, many, m, ok)
			}
			check(t, p, append(mails(place), mails(many)[place+1:]...)...)
			for range many - 1 {
				if m, ok := p.Take(0); !ok || m == mail(place) {
					t.Errorf("Take(0) behind Take(%d) of %d: %+v %v", place, many, m, ok)
				}
			}
			takeNone(t, p, 0)
		}
	}
}

// How many there are counts anew behind each: the number 1 of five comes, and then of four, and so on.
func TestTakeTillThereIsNone(t *testing.T) {
	p := must(t, mails(5)...)
	for _, want := range []int{1, 2, 3, 4, 0} {
		if m, ok := p.Take(1); !ok || m != mail(want) {
			t.Errorf("Take(1): %+v %v, want %+v", m, ok, mail(want))
		}
	}
	takeNone(t, p, 1)
}

// Of a post without mail, be it a new one or one of which all came, nothing comes, and what is sent then is the first.
func TestNoMail(t *testing.T) {
	empty := must(t, mails(most)...)
	for range most {
		empty.Take(0)
	}
	for _, p := range []*post.Post{must(t), empty} {
		for _, n := range append(farNumbers(), -2, -1, 0, 1, 2, most-1, most, most+1) {
			takeNone(t, p, n)
			doubleNot(t, p, n)
			takeNone(t, p, n)
		}
		send(t, p, mail(3), true)
		check(t, p, mail(3))
		takeNone(t, must(t), 0)
		take(t, p, 1, 0)
	}
}

// The one stays where it is, and one just so is laid behind all others.
func TestDouble(t *testing.T) {
	for _, many := range []int{1, 2, 3, 5, most - 1} {
		for place := range many {
			p := must(t, mails(many)...)
			if !p.Double(place) {
				t.Errorf("Double(%d) of %d: false", place, many)
			}
			check(t, p, append(mails(many), mail(place))...)
			take(t, p, place, place)
			if m, ok := p.Take(many - 1); !ok || m != mail(place) {
				t.Errorf("Take of the double of %d of %d: %+v %v", place, many, m, ok)
			}
		}
	}
}

// How many there are counts anew behind each: what was doubled is one of them.
func TestDoubleTillThereIsNoRoom(t *testing.T) {
	p := must(t, mail(0), mail(1))
	want := []api.Mail{mail(0), mail(1)}
	for n := 2; n < most; n++ {
		if !p.Double(3) {
			t.Errorf("Double(3) of %d: false", n)
		}
		want = append(want, want[3%n])
		check(t, p, want...)
	}
	for _, n := range append(farNumbers(), -1, 0, 3, most-1, most) {
		doubleNot(t, p, n)
	}
	take(t, p, most-1, most-1)
	double(t, p, 0, 0)
	doubleNot(t, p, 0)
}

// A list that was answered is the asker's: what is done to it is not done to the post, nor to another list.
func TestListIsNewMemory(t *testing.T) {
	for _, many := range []int{1, 3, most - 1, most} {
		p := must(t, mails(many)...)
		one, other := p.List(), p.List()
		for i := range one {
			one[i] = mail(90 + i)
		}
		_ = append(one, mail(80))
		_ = append(one[:0], mail(81))
		check(t, p, mails(many)...)
		if !slices.Equal(other, mails(many)) {
			t.Errorf("another list of %d: %+v", many, other)
		}
		take(t, p, 0, 0)
		check(t, p, mails(many)[1:]...)
	}
}

// What lies behind the length of a list is no part of the post, either.
func TestListsMemoryBehindItsLength(t *testing.T) {
	p := must(t, mails(3)...)
	l := p.List()
	for range 5 {
		l = append(l, mail(70))
	}
	send(t, p, mail(3), true)
	full := p.List()
	full = full[:cap(full)]
	for i := range full {
		full[i] = mail(71)
	}
	check(t, p, mails(4)...)
	if !slices.Equal(l[3:], []api.Mail{mail(70), mail(70), mail(70), mail(70), mail(70)}) {
		t.Errorf("the asker's list: %+v", l)
	}
}

// A list stays as it was answered, whatever comes and goes behind it.
func TestListStays(t *testing.T) {
	later := []func(p *post.Post){
		func(p *post.Post) { p.Send(mail(60)) },
		func(p *post.Post) { p.Take(0) },
		func(p *post.Post) { p.Take(1) },
		func(p *post.Post) { p.Take(p.Len() - 1) },
		func(p *post.Post) { p.Double(0) },
		func(p *post.Post) { p.Take(0); p.Send(mail(61)) },
		func(p *post.Post) {
			for range most {
				p.Take(0)
			}
			p.Send(mail(62))
		},
	}
	for _, many := range []int{1, 2, 3, most - 1, most} {
		for i, do := range later {
			p := must(t, mails(many)...)
			l := p.List()
			do(p)
			if !slices.Equal(l, mails(many)) {
				t.Errorf("a list of %d behind %d: %+v", many, i, l)
			}
		}
	}
}

// Asking changes nothing.
func TestAskingTwice(t *testing.T) {
	for _, many := range []int{0, 1, 3, most} {
		p := must(t, mails(many)...)
		before := told(p)
		for range 3 {
			if got := told(p); got != before {
				t.Errorf("%s, was %s", got, before)
			}
		}
	}
}
