package town_test

import (
	"math/big"
	"slices"
	"testing"

	"handsel/api"
	"handsel/town"
)

// towns are one where nothing was, one with all that there may be on its way, one in the midst of its deals, and one behind them.
func towns(t *testing.T) []*town.Town {
	t.Helper()
	crowded, calm := full(t), busy(t)
	do(t, crowded, tick())
	calms(t, calm)
	return []*town.Town{must(t, even()), crowded, busy(t), calm}
}

// A step of a kind that there is not, whatever else it has.
func TestNoSuchKind(t *testing.T) {
	for _, x := range towns(t) {
		for _, kind := range append(farNumbers(), -8, -1, 0, 9, 10, 100, api.SBegin+1<<32) {
			for _, n := range append(farNumbers(), -1, 0, 1, 2, api.MaxDeals) {
				refuses(t, x, api.Step{Kind: kind, N: n}, api.ErrKind)
				refuses(t, x, api.Step{Kind: kind, N: n, Wants: []api.Want{want(0, 1)}}, api.ErrKind)
			}
		}
	}
	refuses(t, must(t, even()), api.Step{}, api.ErrKind)
}

// Wants that plan.Check has a code of: it is told, though there are as many deals as there may be.
func TestBeginOfWrongWants(t *testing.T) {
	cases := []struct {
		wants []api.Want
		code  int
	}{
		{nil, api.ErrForm},
		{[]api.Want{}, api.ErrForm},
		{[]api.Want{want(0, 1), want(1, 1), want(2, 1), want(3, 1), want(4, 1)}, api.ErrMany},
		{slices.Repeat([]api.Want{want(-1, 0)}, 100), api.ErrMany},
		{[]api.Want{want(-1, 1)}, api.ErrRange},
		{[]api.Want{want(api.Counters, 1)}, api.ErrRange},
		{[]api.Want{want(0, 1), want(1, 1), want(2, 1), want(-1, 1)}, api.ErrRange},
		{[]api.Want{want(0, 0)}, api.ErrForm},
		{[]api.Want{want(0, most+1)}, api.ErrRange},
		{[]api.Want{want(0, -most-1)}, api.ErrRange},
		{[]api.Want{want(3, 1), want(3, 1)}, api.ErrTwice},
		{[]api.Want{want(3, 1), want(2, 5), want(0, 7), want(3, -1)}, api.ErrTwice},
		// The first that is wrong is told.
		{[]api.Want{want(3, 1), want(3, 1), want(9, 1)}, api.ErrTwice},
		{[]api.Want{want(3, 1), want(9, 1), want(3, 1)}, api.ErrRange},
		{[]api.Want{want(3, 1), want(3, 0)}, api.ErrForm},
	}
	for _, n := range farNumbers() {
		cases = append(cases, []struct {
			wants []api.Want
			code  int
		}{
			{[]api.Want{want(n, 1)}, api.ErrRange},
			{[]api.Want{want(0, n)}, api.ErrRange},
			{[]api.Want{want(0, 1), want(n, n)}, api.ErrRange},
		}...)
	}
	for _, x := range towns(t) {
		for _, c := range cases {
			refuses(t, x, begin(c.wants...), c.code)
		}
	}
}

// Whatever number is asked for, there is no mail: of a new town, and of one of which all came.
func TestNoMail(t *testing.T) {
	calm := busy(t)
	calms(t, calm)
	for _, x := range []*town.Town{must(t, even()), behind(t, even(), begin(want(0, 1))), calm} {
		for _, n := range append(farNumbers(), -2, -1, 0, 1, 2, api.MaxMail-1, api.MaxMail) {
			refuses(t, x, deliver(n), api.ErrNone)
			refuses(t, x, lose(n), api.ErrNone)
			refuses(t, x, double(n), api.ErrNone)
		}
	}
}

// place is where the number n stands among many, as a number without sign, reckoned in numbers without bound.
func place(n, many int) int {
	x := big.NewInt(int64(n))
	if n < 0 {
		x.Add(x, new(big.Int).Lsh(big.NewInt(1), 64))
	}
	return int(x.Mod(x, big.NewInt(int64(many))).Int64())
}

// A number below 0 or far beyond what there is, counted round, is that of the mail where it comes to stand.
func TestNumbersCountedRound(t *testing.T) {
	numbers := append(farNumbers(), 1<<31, 1<<32, -1<<31, -1<<32)
	for n := -50; n <= 100; n++ {
		numbers = append(numbers, n)
	}
	// Of 1 mail, of 5, of 7, of 12 and of as many as there may be.
	for _, build := range []func() *town.Town{
		func() *town.Town { return behind(t, even(), begin(want(3, 1)), tick()) },
		func() *town.Town { return behind(t, even(), begin(want(3, 1), want(0, 1)), tick(), tick(), double(0)) },
		func() *town.Town {
			return behind(t, even(), begin(want(5, 7), want(0, 1), want(4, -8)), begin(want(5, -3)), tick(), tick(), lose(7))
		},
		func() *town.Town { return busy(t) },
		func() *town.Town { x := full(t); do(t, x, tick()); return x },
	} {
		many := len(build().Mail())
		for _, n := range numbers {
			at := place(n, many)
			for _, step := range []func(int) api.Step{deliver, lose, double} {
				x, y := build(), build()
				got, want := x.Step(step(n)), y.Step(step(at))
				if got != want || told(x) != told(y) {
					t.Fatalf("%+v of %d: %d, %s; want as of %d: %d, %s", step(n), many, got, told(x), at, want, told(y))
				}
			}
			x := build()
			all := x.Mail()
			do(t, x, lose(n))
			checkMail(t, x, slices.Delete(all, at, at+1)...)
		}
	}
}

func TestNoSuchDeal(t *testing.T) {
	x := must(t, even())
	for n := range api.MaxDeals + 1 {
		for _, none := range append(farNumbers(), -1, -2, n, n+1, api.MaxDeals, api.MaxDeals+1, n-1+1<<32) {
			if none < 0 || none >= n {
				refuses(t, x, quit(none), api.ErrNone)
				checkState(t, x, none, -1)
				if l := x.Wants(none); len(l) != 0 {
					t.Errorf("Wants(%d): %v", none, l)
				}
			}
		}
		if n < api.MaxDeals {
			do(t, x, begin(want(0, 1)))
		}
	}
}

func TestNoSuchShop(t *testing.T) {
	for _, x := range towns(t) {
		for _, s := range append(farNumbers(), -1, -2, -api.Shops, api.Shops, api.Shops+1, 1<<32, lastShop+1<<32) {
			refuses(t, x, shopForgets(s), api.ErrRange)
		}
		for s := range api.Shops {
			idle(t, x, shopForgets(s))
		}
	}
}

// What was refused leaves no trace: the town goes on as one that was never asked.
func TestRefusedStepsLeaveNoTrace(t *testing.T) {
	wrong := []api.Step{{}, {Kind: 9}, begin(), begin(want(6, 1)), quit(-1), quit(api.MaxDeals), shopForgets(-1), shopForgets(api.Shops)}
	steps := []api.Step{
		begin(want(0, -20), want(3, 20)), begin(want(0, -40), want(5, 40)), tick(), deliver(2), double(0), deliver(1),
		lose(3), tick(), quit(0), deliver(-1), brokerForgets(), begin(want(1, 1)), tick(), deliver(5), deliver(0),
	}
	plain, x := must(t, even()), must(t, even())
	for _, s := range steps {
		for _, w := range wrong {
			if x.Step(w) == 0 {
				t.Errorf("%+v: no code", w)
			}
		}
		do(t, plain, s)
		do(t, x, s)
		if told(x) != told(plain) {
			t.Fatalf("behind %+v: %s, want %s", s, told(x), told(plain))
		}
	}
	if got, want := calms(t, x), calms(t, plain); got != want || told(x) != told(plain) {
		t.Errorf("Calm: %d, %s; want %d, %s", got, told(x), want, told(plain))
	}
}
