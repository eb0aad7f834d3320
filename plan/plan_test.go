package plan_test

import (
	"math"
	"slices"
	"testing"

	"handsel/api"
	"handsel/plan"
)

const (
	most = api.MaxValue
	last = api.Counters - 1
)

func fault(code, at int) api.Fault { return api.Fault{Code: code, At: at} }

// list is what a deal wants in short: each a counter and its delta.
type list [][2]int

func (l list) wants() []api.Want {
	if l == nil {
		return nil
	}
	wants := make([]api.Want, len(l))
	for i, w := range l {
		wants[i] = api.Want{Counter: w[0], Delta: w[1]}
	}
	return wants
}

// start is as much of a list as a fault's text has room for.
func start(l []api.Want) []api.Want { return l[:min(len(l), 9)] }

func TestShop(t *testing.T) {
	cases := []struct{ counter, shop int }{
		{0, 0}, {1, 0}, {2, 1}, {3, 1}, {4, 2}, {last, api.Shops - 1},
		{-1, -1}, {-2, -1}, {-api.PerShop, -1}, {api.Counters, -1}, {api.Counters + 1, -1},
		{math.MinInt, -1}, {math.MinInt + 1, -1}, {math.MaxInt - 1, -1}, {math.MaxInt, -1},
	}
	for _, x := range cases {
		if got := plan.Shop(x.counter); got != x.shop {
			t.Errorf("Shop(%d): %d, want %d", x.counter, got, x.shop)
		}
	}
}

type wantCase struct {
	w    api.Want
	code int
}

// wantCases: the edges of each part of a want, and what is told first where both are wrong.
func wantCases() []wantCase {
	return []wantCase{
		{api.Want{Counter: 0, Delta: 1}, 0},
		{api.Want{Counter: 3, Delta: -7}, 0},
		{api.Want{Counter: 0, Delta: -most}, 0},
		{api.Want{Counter: 0, Delta: most}, 0},
		{api.Want{Counter: last, Delta: -1}, 0},
		{api.Want{Counter: last, Delta: -most}, 0},
		{api.Want{Counter: last, Delta: most}, 0},

		{api.Want{Counter: 0, Delta: 0}, api.ErrForm},
		{api.Want{Counter: last, Delta: 0}, api.ErrForm},
		{api.Want{Counter: 0, Delta: -most - 1}, api.ErrRange},
		{api.Want{Counter: 0, Delta: most + 1}, api.ErrRange},
		{api.Want{Counter: last, Delta: math.MinInt}, api.ErrRange},
		{api.Want{Counter: last, Delta: math.MaxInt}, api.ErrRange},

		{api.Want{Counter: -1, Delta: 1}, api.ErrRange},
		{api.Want{Counter: api.Counters, Delta: 1}, api.ErrRange},
		{api.Want{Counter: math.MinInt, Delta: -1}, api.ErrRange},
		{api.Want{Counter: math.MaxInt, Delta: -1}, api.ErrRange},

		{api.Want{Counter: -1, Delta: 0}, api.ErrRange},
		{api.Want{Counter: api.Counters, Delta: 0}, api.ErrRange},
		{api.Want{Counter: math.MinInt, Delta: 0}, api.ErrRange},
		{api.Want{Counter: math.MaxInt, Delta: 0}, api.ErrRange},
		{api.Want{Counter: math.MinInt, Delta: math.MaxInt}, api.ErrRange},
	}
}

func TestWant(t *testing.T) {
	for _, x := range wantCases() {
		if got := plan.Want(x.w); got != x.code {
			t.Errorf("Want(%v): %d, want %d", x.w, got, x.code)
		}
	}
}

type checkCase struct {
	l list
	f api.Fault
}

// checkCases: how many there are, each fault at each place, and which is told where several are so.
func checkCases() []checkCase {
	return []checkCase{
		{list{{0, 1}}, api.Fault{}},
		{list{{last, -most}}, api.Fault{}},
		{list{{5, 3}, {0, -2}, {1, 4}}, api.Fault{}},
		{list{{0, most}, {1, -most}, {4, 1}, {last, -1}}, api.Fault{}},
		{list{{3, 7}, {2, 7}, {1, 7}, {0, 7}}, api.Fault{}},

		{nil, fault(api.ErrForm, -1)},
		{list{}, fault(api.ErrForm, -1)},
		{list{{0, 1}, {1, 1}, {2, 1}, {3, 1}, {4, 1}}, fault(api.ErrMany, -1)},
		{list{{0, 1}, {1, 1}, {2, 1}, {3, 1}, {4, 1}, {5, 1}}, fault(api.ErrMany, -1)},
		{make(list, api.MaxWants+1), fault(api.ErrMany, -1)},
		{list{{-1, 1}, {-1, 1}, {0, 0}, {0, 0}, {0, 1}}, fault(api.ErrMany, -1)},
		{make(list, 100000), fault(api.ErrMany, -1)},

		{list{{}}, fault(api.ErrForm, 0)},
		{list{{0, 0}, {1, 1}}, fault(api.ErrForm, 0)},
		{list{{0, 1}, {1, 0}}, fault(api.ErrForm, 1)},
		{list{{0, 1}, {1, 1}, {2, 1}, {3, 0}}, fault(api.ErrForm, 3)},
		{list{{-1, 1}}, fault(api.ErrRange, 0)},
		{list{{0, 1}, {api.Counters, 1}, {1, 1}}, fault(api.ErrRange, 1)},
		{list{{0, 1}, {1, 1}, {2, most + 1}}, fault(api.ErrRange, 2)},
		{list{{0, 1}, {1, 1}, {2, 1}, {3, -most - 1}}, fault(api.ErrRange, 3)},
		{list{{0, 1}, {math.MinInt, 1}}, fault(api.ErrRange, 1)},
		{list{{0, 1}, {math.MaxInt, 1}}, fault(api.ErrRange, 1)},
		{list{{0, 1}, {1, math.MinInt}}, fault(api.ErrRange, 1)},
		{list{{0, 1}, {1, math.MaxInt}}, fault(api.ErrRange, 1)},

		{list{{0, 1}, {0, 1}}, fault(api.ErrTwice, 1)},
		{list{{last, 1}, {last, -1}}, fault(api.ErrTwice, 1)},
		{list{{0, 1}, {1, 2}, {0, 3}}, fault(api.ErrTwice, 2)},
		{list{{0, 1}, {1, 2}, {2, 3}, {0, 4}}, fault(api.ErrTwice, 3)},
		{list{{0, 1}, {1, 2}, {2, 3}, {1, 4}}, fault(api.ErrTwice, 3)},
		{list{{0, 1}, {1, 2}, {2, 3}, {2, 4}}, fault(api.ErrTwice, 3)},

		// The first want that has one is told, whatever its code.
		{list{{0, 1}, {0, 1}, {-1, 1}}, fault(api.ErrTwice, 1)},
		{list{{0, 1}, {0, 1}, {1, 0}}, fault(api.ErrTwice, 1)},
		{list{{0, 1}, {0, 1}, {0, 1}, {0, 1}}, fault(api.ErrTwice, 1)},
		{list{{0, 1}, {1, 0}, {0, 1}}, fault(api.ErrForm, 1)},
		{list{{0, 1}, {1, 0}, {-1, 1}}, fault(api.ErrForm, 1)},
		{list{{0, 1}, {6, 1}, {0, 1}, {1, 0}}, fault(api.ErrRange, 1)},
		// Of one want its own code is told ahead of ErrTwice.
		{list{{0, 1}, {0, 0}}, fault(api.ErrForm, 1)},
		{list{{0, 1}, {0, most + 1}}, fault(api.ErrRange, 1)},
		{list{{-1, 1}, {-1, 1}}, fault(api.ErrRange, 0)},
	}
}

func TestCheck(t *testing.T) {
	for _, x := range checkCases() {
		l := x.l.wants()
		if got := plan.Check(l); got != x.f {
			t.Errorf("Check(%v): %v, want %v", start(l), got, x.f)
		}
	}
}

// TestCheckTellsWantsCode: at every place of a list, Want's code is Check's.
func TestCheckTellsWantsCode(t *testing.T) {
	for at := range api.MaxWants {
		for _, x := range wantCases() {
			// No want of wantCases has one of these three counters.
			l := slices.Insert(list{{1, 1}, {2, 1}, {4, 1}}.wants(), at, x.w)
			want := api.Fault{}
			if x.code != 0 {
				want = fault(x.code, at)
			}
			if got := plan.Check(l); got != want {
				t.Errorf("Check(%v): %v, want %v", l, got, want)
			}
		}
	}
}

func TestShops(t *testing.T) {
	cases := []struct {
		l     list
		shops []int
	}{
		{nil, nil},
		{list{}, nil},
		{list{{0, 1}}, []int{0}},
		{list{{1, 1}}, []int{0}},
		{list{{2, 1}}, []int{1}},
		{list{{last, 1}}, []int{2}},
		{list{{5, 3}, {0, -2}, {1, 4}}, []int{0, 2}},
		{list{{5, 1}, {4, 1}, {3, 1}, {2, 1}}, []int{1, 2}},
		{list{{4, 1}, {2, 1}, {0, 1}}, []int{0, 1, 2}},
		{list{{2, 1}, {0, 1}, {4, 1}}, []int{0, 1, 2}},
		{list{{0, 1}, {1, 1}}, []int{0}},

		// Shops has no fault: it tells of any list, and a counter that is none is in no shop.
		{list{{3, 1}, {3, 1}, {3, 0}, {3, 101}, {3, -1}}, []int{1}},
		{list{{0, 0}, {5, math.MinInt}}, []int{0, 2}},
		{list{{-1, 1}}, nil},
		{list{{-1, 1}, {api.Counters, 1}, {4, 1}, {math.MinInt, 1}, {math.MaxInt, 1}}, []int{2}},
		{list{{0, 1}, {1, 1}, {2, 1}, {3, 1}, {4, 1}, {5, 1}}, []int{0, 1, 2}},
		{make(list, 100000), []int{0}},
	}
	for _, x := range cases {
		l := x.l.wants()
		if got := plan.Shops(l); !slices.Equal(got, x.shops) {
			t.Errorf("Shops(%v): %v, want %v", start(l), got, x.shops)
		}
	}
}

func TestApply(t *testing.T) {
	cases := []struct {
		w     api.World
		l     list
		after api.World
		f     api.Fault
	}{
		{api.World{5, 0, 7, 0, 0, 0}, list{{5, 3}, {0, -2}, {1, 4}}, api.World{3, 4, 7, 0, 0, 3}, api.Fault{}},
		{api.World{10, 20, 30, 40, 50, 60}, list{{3, -5}}, api.World{10, 20, 30, 35, 50, 60}, api.Fault{}},
		{api.World{10, 20, 30, 40, 50, 60}, list{{0, 1}, {1, -1}, {2, 2}, {last, -2}}, api.World{11, 19, 32, 40, 50, 58}, api.Fault{}},

		{api.World{}, list{{0, most}}, api.World{0: most}, api.Fault{}},
		{api.World{}, list{{last, most}}, api.World{last: most}, api.Fault{}},
		{api.World{0: most}, list{{0, -most}}, api.World{}, api.Fault{}},
		{api.World{last: most}, list{{last, -most}}, api.World{}, api.Fault{}},
		{api.World{0: most, 1: most}, list{{0, -1}}, api.World{0: most - 1, 1: most}, api.Fault{}},
		{api.World{3: 7}, list{{3, -7}}, api.World{}, api.Fault{}},
		{api.World{3: 93}, list{{3, 7}}, api.World{3: most}, api.Fault{}},

		{api.World{}, list{{0, -1}}, api.World{}, fault(api.ErrShort, 0)},
		{api.World{}, list{{0, -most}}, api.World{}, fault(api.ErrShort, 0)},
		{api.World{3: 7, 0: 5}, list{{0, -5}, {3, -8}}, api.World{}, fault(api.ErrShort, 1)},
		{api.World{last: most - 1}, list{{0, 1}, {1, 1}, {2, 1}, {last, -most}}, api.World{}, fault(api.ErrShort, 3)},
		{api.World{0: most}, list{{0, 1}}, api.World{}, fault(api.ErrFull, 0)},
		{api.World{0: most}, list{{0, most}}, api.World{}, fault(api.ErrFull, 0)},
		{api.World{3: 93, 1: 9}, list{{1, -9}, {0, 1}, {3, 8}}, api.World{}, fault(api.ErrFull, 2)},
		{api.World{last: 1}, list{{last, most}}, api.World{}, fault(api.ErrFull, 0)},

		{api.World{0: -1}, list{{0, 1}}, api.World{}, fault(api.ErrRange, 0)},
		{api.World{0: most + 1}, list{{0, -1}}, api.World{}, fault(api.ErrRange, 0)},
		{api.World{0: most + 1}, list{{0, 1}}, api.World{}, fault(api.ErrRange, 0)},
		{api.World{0: -1}, list{{0, -1}}, api.World{}, fault(api.ErrRange, 0)},
		{api.World{last: math.MinInt}, list{{0, 1}, {last, -1}}, api.World{}, fault(api.ErrRange, 1)},
		{api.World{last: math.MaxInt}, list{{0, 1}, {last, 1}}, api.World{}, fault(api.ErrRange, 1)},
		{api.World{last: math.MinInt}, list{{0, 1}, {last, most}}, api.World{}, fault(api.ErrRange, 1)},
		{api.World{last: math.MaxInt}, list{{0, 1}, {last, -most}}, api.World{}, fault(api.ErrRange, 1)},

		// The first want that has one is told, whatever its code.
		{api.World{1: -1}, list{{0, -1}, {1, 1}}, api.World{}, fault(api.ErrShort, 0)},
		{api.World{1: most, 2: -1}, list{{1, 1}, {0, -1}, {2, 1}}, api.World{}, fault(api.ErrFull, 0)},
		{api.World{1: most, 2: -1}, list{{2, 1}, {1, 1}, {0, -1}}, api.World{}, fault(api.ErrRange, 0)},
		{api.World{1: most}, list{{5, 1}, {1, 1}, {0, -1}}, api.World{}, fault(api.ErrFull, 1)},
		{api.World{1: most}, list{{5, 1}, {0, -1}, {1, 1}}, api.World{}, fault(api.ErrShort, 1)},

		// What nobody wants is not looked at, and stays as it is.
		{api.World{4: -1, 0: 2}, list{{0, -2}}, api.World{4: -1}, api.Fault{}},
		{api.World{2, math.MinInt, math.MaxInt, most + 1, -1, 3}, list{{0, 1}, {5, -1}}, api.World{3, math.MinInt, math.MaxInt, most + 1, -1, 2}, api.Fault{}},
	}
	for _, x := range cases {
		if got, f := plan.Apply(x.w, x.l.wants()); got != x.after || f != x.f {
			t.Errorf("Apply(%v, %v): %v %v, want %v %v", x.w, x.l, got, f, x.after, x.f)
		}
	}
}

// TestApplyTellsChecksFaultFirst: with a world that has a fault of each want, or of none, and with no world's numbers.
func TestApplyTellsChecksFaultFirst(t *testing.T) {
	worlds := []api.World{
		{50, 50, 50, 50, 50, 50}, {},
		{most, most, most, most, most, most}, {-1, -1, -1, -1, -1, -1},
		{math.MinInt, math.MaxInt, math.MinInt, math.MaxInt, math.MinInt, math.MaxInt},
	}
	for _, x := range checkCases() {
		if x.f == (api.Fault{}) {
			continue
		}
		l := x.l.wants()
		for _, w := range worlds {
			if got, f := plan.Apply(w, l); got != (api.World{}) || f != x.f {
				t.Errorf("Apply(%v, %v): %v %v, want none and %v", w, start(l), got, f, x.f)
			}
		}
	}
}

// TestNothingIsChangedOrKept: neither what is handed in, nor what lies behind its length, nor what was answered ahead.
func TestNothingIsChangedOrKept(t *testing.T) {
	memory := list{{5, 3}, {0, -2}, {1, 4}, {5, 0}, {-1, 0}, {2, 7}}.wants()
	before := slices.Clone(memory)
	l, w := memory[:3], api.World{0: 5, 2: 7}
	first := plan.Shops(l)
	if f := plan.Check(l); f != (api.Fault{}) {
		t.Errorf("Check(%v): %v", l, f)
	}
	after, f := plan.Apply(w, l)
	if after != (api.World{3, 4, 7, 0, 0, 3}) || f != (api.Fault{}) || w != (api.World{0: 5, 2: 7}) {
		t.Errorf("Apply(%v, %v): %v %v", w, l, after, f)
	}
	if !slices.Equal(memory, before) {
		t.Errorf("what was handed in is %v, was %v", memory, before)
	}
	again := plan.Shops(l)
	first[0], first[1] = 77, 78
	if third := plan.Shops(l); !slices.Equal(again, []int{0, 2}) || !slices.Equal(third, []int{0, 2}) {
		t.Errorf("Shops(%v), asked again: %v, and %v", l, again, third)
	}
	if f := plan.Check(memory[:0]); f != fault(api.ErrForm, -1) {
		t.Errorf("Check of none with more behind: %v", f)
	}
	if shops := plan.Shops(memory[:0]); len(shops) != 0 {
		t.Errorf("Shops of none with more behind: %v", shops)
	}
}
