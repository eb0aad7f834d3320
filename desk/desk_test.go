package desk_test

import (
	"slices"
	"strings"
	"testing"

	"handsel/api"
	"handsel/desk"
)

// turn is a line, and what is told of it: things told, parted by a bar; "": nothing.
type turn struct{ line, told string }

// text is what a desk tells when it tells these things.
func text(told string) string {
	if told == "" {
		return ""
	}
	return strings.ReplaceAll(told, "|", "\n") + "\n"
}

// do does lines that have no fault, which are as they were when it is done.
func do(t *testing.T, d *desk.Desk, lines ...string) string {
	t.Helper()
	handed := slices.Clone(lines)
	told, fault := d.Do(handed)
	if fault != (api.Fault{}) {
		t.Fatalf("%q: %+v", lines, fault)
	}
	if !slices.Equal(handed, lines) {
		t.Fatalf("%q: changed to %q", lines, handed)
	}
	return told
}

// tells does one line, and looks at what is told of it.
func tells(t *testing.T, d *desk.Desk, line, told string) {
	t.Helper()
	if got := do(t, d, line); got != text(told) {
		t.Errorf("%q: %q, want %q", line, got, text(told))
	}
}

// talk has the turns of one desk, one by one, and of another one in one Do.
func talk(t *testing.T, turns ...turn) {
	t.Helper()
	one, all := desk.New(), ""
	var lines []string
	for _, x := range turns {
		tells(t, one, x.line, x.told)
		lines = append(lines, x.line)
		all += text(x.told)
	}
	if got := do(t, desk.New(), lines...); got != all {
		t.Errorf("%q: %q, want %q", lines, got, all)
	}
}

// looks are lines that change nothing, and tell all that a desk can tell.
func looks() []string {
	lines := []string{"world", "serial", "done", "mail", "due", "holds 0", "holds 1", "holds 2"}
	for _, n := range "012345678" {
		lines = append(lines, "state "+string(n))
	}
	return lines
}

// behind is a desk behind lines, whatever is told of them.
func behind(t *testing.T, lines ...string) *desk.Desk {
	t.Helper()
	d := desk.New()
	do(t, d, lines...)
	return d
}

// refuses does lines that have a fault: nothing is told, and nothing is done.
func refuses(t *testing.T, d *desk.Desk, lines []string, want api.Fault) {
	t.Helper()
	before := do(t, d, looks()...)
	handed := slices.Clone(lines)
	told, fault := d.Do(handed)
	if told != "" || fault != want {
		t.Errorf("%q: %q %+v, want %+v", lines, told, fault, want)
	}
	if !slices.Equal(handed, lines) {
		t.Errorf("%q: changed to %q", lines, handed)
	}
	if got := do(t, d, looks()...); got != before {
		t.Errorf("%q: %q, was %q", lines, got, before)
	}
}

// isNone does a line that is none of those that are known: just that is told, and nothing is done.
func isNone(t *testing.T, d *desk.Desk, line string) {
	t.Helper()
	before := do(t, d, looks()...)
	tells(t, d, line, "what")
	if got := do(t, d, looks()...); got != before {
		t.Errorf("%q: %q, was %q", line, got, before)
	}
}

// busy are lines behind which a deal is done, one is not, two are open, and mail of all kinds is on its way.
func busy() []string {
	return []string{
		"begin 0 -20 3 20", "begin 0 -40 5 40", "begin 4 7", "begin 1 -1 2 1", "tick",
		// Both asks of the deal 0 come, and their says; then the first ask of the deal 1, which is in vain, and its say.
		"deliver 0", "deliver 0", "deliver 5", "deliver 5", "deliver 0", "deliver 4",
		// An end of each of them is answered; then an ask of the deal 1, which is over there, and one of the deal 2.
		"tick", "deliver 4", "deliver 6", "deliver 0", "deliver 0",
	}
}

func TestNew(t *testing.T) {
	none := "count 50 0 0|count 50 0 0|end"
	talk(t,
		turn{"world", "world 50 50 50 50 50 50"},
		turn{"serial", "world 50 50 50 50 50 50"},
		turn{"done", "done"},
		turn{"state 0", "state -1"},
		turn{"mail", "end"},
		turn{"due", "end"},
		turn{"holds 0", none},
		turn{"holds 1", none},
		turn{"holds 2", none},
		turn{"calm", "calm 0"},
	)
}

// Two deals want 20 and 40 of a counter that has 50: who is held first is held.
func TestTwoDeals(t *testing.T) {
	talk(t,
		turn{"begin 0 -20 3 20", "ok"},
		turn{"begin 0 -40 5 40", "ok"},
		turn{"due", "ask 0 0 0 -20|ask 0 1 3 20|ask 1 0 0 -40|ask 1 2 5 40|end"},
		turn{"mail", "end"},
		turn{"tick", "ok"},
		turn{"mail", "ask 0 0 0 -20|ask 0 1 3 20|ask 1 0 0 -40|ask 1 2 5 40|end"},
		turn{"deliver 2", "ok"},
		turn{"holds 0", "count 50 40 0|count 50 0 0|hold 1 0 -40|end"},
		turn{"deliver 0", "ok"},
		turn{"holds 0", "count 50 40 0|count 50 0 0|hold 1 0 -40|end"},
		turn{"deliver 0", "ok"},
		turn{"holds 1", "count 50 0 0|count 50 0 20|hold 0 3 20|end"},
		turn{"mail", "ask 1 2 5 40|say 1 0 0 -40 yes|say 0 0 0 -20|say 0 1 3 20 yes|end"},
		turn{"state 0", "state 0"},
		turn{"deliver 2", "ok"},
		turn{"state 0", "state 2"},
		turn{"state 1", "state 0"},
		turn{"due", "end 0 0 0 0|end 0 1 0 0|ask 1 0 0 -40|ask 1 2 5 40|end"},
		turn{"calm", "calm 1"},
		turn{"state 0", "state 2"},
		turn{"state 1", "state 1"},
		turn{"done", "done 1"},
		turn{"holds 0", "count 10 0 0|count 50 0 0|end"},
		turn{"holds 1", "count 50 0 0|count 50 0 0|end"},
		turn{"holds 2", "count 50 0 0|count 90 0 0|end"},
		turn{"world", "world 10 50 50 50 50 90"},
		turn{"serial", "world 10 50 50 50 50 90"},
		turn{"mail", "end"},
		turn{"due", "end"},
		turn{"calm", "calm 0"},
	)
}

// The other order: the first deal is held first.
func TestTwoDealsInOrder(t *testing.T) {
	talk(t,
		turn{"begin 0 -20 3 20", "ok"},
		turn{"begin 0 -40 5 40", "ok"},
		turn{"calm", "calm 2"},
		turn{"done", "done 0"},
		turn{"state 0", "state 1"},
		turn{"state 1", "state 2"},
		turn{"world", "world 30 50 50 70 50 50"},
		turn{"serial", "world 30 50 50 70 50 50"},
	)
}

// An ask that comes when the deal is over there is answered by a say without yes, and nothing is held.
func TestLateAsk(t *testing.T) {
	talk(t,
		turn{"begin 2 -7", "ok"},
		turn{"tick", "ok"},
		turn{"quit 0", "ok"},
		turn{"tick", "ok"},
		turn{"mail", "ask 0 1 2 -7|end 0 1 0 0|end"},
		turn{"deliver 1", "ok"},
		turn{"mail", "ask 0 1 2 -7|over 0 1 0 0|end"},
		turn{"deliver 0", "ok"},
		turn{"mail", "over 0 1 0 0|say 0 1 2 -7|end"},
		turn{"holds 1", "count 50 0 0|count 50 0 0|end"},
	)
}

// Mail of each kind, with yes and without; an ask never has it.
func TestMails(t *testing.T) {
	d := behind(t, busy()...)
	tells(t, d, "mail", "ask 3 0 1 -1|ask 3 1 2 1|end 0 1 0 0 yes|end 1 0 0 0|ask 2 2 4 7|ask 3 0 1 -1|ask 3 1 2 1|"+
		"over 0 0 0 0 yes|over 1 2 0 0|say 1 2 5 40|say 2 2 4 7 yes|end")
	tells(t, d, "due", "end 0 0 0 0 yes|end 0 1 0 0 yes|end 1 0 0 0|end 1 2 0 0|ask 2 2 4 7|ask 3 0 1 -1|ask 3 1 2 1|end")
	tells(t, d, "calm", "calm 1")
	tells(t, d, "done", "done 0 2 3")
	tells(t, d, "world", "world 30 49 51 70 57 50")
}

// A say without yes: one of a counter that has not as much, and one that would have too much.
func TestSaysWithoutYes(t *testing.T) {
	talk(t,
		turn{"begin 0 -51 3 51 5 50", "ok"},
		turn{"tick", "ok"},
		turn{"deliver 0", "ok"},
		turn{"deliver 0", "ok"},
		turn{"deliver 0", "ok"},
		turn{"mail", "say 0 0 0 -51|say 0 1 3 51|say 0 2 5 50 yes|end"},
		turn{"holds 2", "count 50 0 0|count 50 0 50|hold 0 5 50|end"},
		turn{"deliver 2", "ok"},
		turn{"due", "ask 0 0 0 -51|ask 0 1 3 51|end"},
		turn{"deliver 1", "ok"},
		turn{"due", "end 0 0 0 0|end 0 1 0 0|end 0 2 0 0|end"},
		turn{"state 0", "state 2"},
	)
}

// Each step of the table, with no code and with those that it can have.
func TestSteps(t *testing.T) {
	cases := []struct {
		ahead []string
		turn
	}{
		{nil, turn{"begin 0 1", "ok"}},
		{nil, turn{"begin 0 1 1 -1 2 100 5 -100", "ok"}},
		{nil, turn{"begin", "no 2"}},
		{nil, turn{"begin 0 0", "no 2"}},
		{nil, turn{"begin 6 1", "no 1"}},
		{nil, turn{"begin -1 1", "no 1"}},
		{nil, turn{"begin 0 101", "no 1"}},
		{nil, turn{"begin 0 -101", "no 1"}},
		{nil, turn{"begin 0 1 0 2", "no 4"}},
		{nil, turn{"begin 0 1 1 1 2 1 3 1 4 1", "no 3"}},
		{slices.Repeat([]string{"begin 0 1"}, api.MaxDeals-1), turn{"begin 0 1", "ok"}},
		{slices.Repeat([]string{"begin 0 1"}, api.MaxDeals), turn{"begin 0 1", "no 6"}},
		{nil, turn{"tick", "ok"}},
		{busy(), turn{"tick", "ok"}},
		{nil, turn{"broker", "ok"}},
		{busy(), turn{"broker", "ok"}},
		{nil, turn{"deliver 0", "no 7"}},
		{busy(), turn{"deliver 0", "ok"}},
		{nil, turn{"lose 0", "no 7"}},
		{busy(), turn{"lose 0", "ok"}},
		{nil, turn{"double 0", "no 7"}},
		{busy(), turn{"double 0", "ok"}},
		{slices.Concat(busy(), slices.Repeat([]string{"double 0"}, api.MaxMail)), turn{"double 0", "no 6"}},
		{nil, turn{"quit 0", "no 7"}},
		{busy(), turn{"quit 0", "no 8"}},
		{busy(), turn{"quit 1", "no 8"}},
		{busy(), turn{"quit 3", "ok"}},
		{busy(), turn{"quit 4", "no 7"}},
		{busy(), turn{"quit -1", "no 7"}},
		{busy(), turn{"shop 0", "ok"}},
		{busy(), turn{"shop 2", "ok"}},
		{busy(), turn{"shop 3", "no 1"}},
		{busy(), turn{"shop -1", "no 1"}},
	}
	for _, c := range cases {
		d := behind(t, c.ahead...)
		before := do(t, d, looks()...)
		tells(t, d, c.line, c.told)
		if after := do(t, d, looks()...); strings.HasPrefix(c.told, "no") && after != before {
			t.Errorf("%q: %q, was %q", c.line, after, before)
		}
	}
}

// What each step does, told by what the desk tells behind it.
func TestWhatStepsDo(t *testing.T) {
	asks := []string{"begin 0 -5 2 5 4 1", "tick"}
	cases := []struct {
		ahead []string
		line  string
		turn
	}{
		{nil, "begin 3 7 0 -2", turn{"due", "ask 0 1 3 7|ask 0 0 0 -2|end"}},
		{asks, "tick", turn{"mail", "ask 0 0 0 -5|ask 0 1 2 5|ask 0 2 4 1|ask 0 0 0 -5|ask 0 1 2 5|ask 0 2 4 1|end"}},
		{asks, "deliver 1", turn{"mail", "ask 0 0 0 -5|ask 0 2 4 1|say 0 1 2 5 yes|end"}},
		{asks, "lose 1", turn{"mail", "ask 0 0 0 -5|ask 0 2 4 1|end"}},
		{asks, "double 1", turn{"mail", "ask 0 0 0 -5|ask 0 1 2 5|ask 0 2 4 1|ask 0 1 2 5|end"}},
		{asks, "quit 0", turn{"state 0", "state 2"}},
		{asks, "broker", turn{"state 0", "state 2"}},
		{append(asks, "deliver 1"), "shop 1", turn{"holds 1", "count 50 0 5|count 50 0 0|hold 0 2 5|end"}},
		{append(asks, "deliver 1", "deliver 2"), "tick", turn{"mail", "ask 0 0 0 -5|ask 0 2 4 1|ask 0 0 0 -5|ask 0 2 4 1|end"}},
		{append(asks, "calm"), "broker", turn{"due", "end 0 0 0 0 yes|end 0 1 0 0 yes|end 0 2 0 0 yes|end"}},
	}
	for _, c := range cases {
		d := behind(t, c.ahead...)
		tells(t, d, c.line, "ok")
		tells(t, d, c.turn.line, c.told)
	}
}

// Calm sends, and tells how often; serial tells ahead of it what will be.
func TestCalmWorldAndSerial(t *testing.T) {
	talk(t,
		turn{"calm", "calm 0"},
		turn{"begin 1 -50 4 50", "ok"},
		turn{"tick", "ok"},
		turn{"deliver 0", "ok"},
		turn{"deliver 0", "ok"},
		turn{"deliver 0", "ok"},
		turn{"serial", "world 50 50 50 50 50 50"},
		turn{"deliver 0", "ok"},
		turn{"state 0", "state 1"},
		turn{"serial", "world 50 0 50 50 100 50"},
		turn{"world", "world 50 50 50 50 50 50"},
		turn{"tick", "ok"},
		turn{"deliver 0", "ok"},
		turn{"world", "world 50 0 50 50 50 50"},
		turn{"calm", "calm 0"},
		turn{"world", "world 50 0 50 50 100 50"},
		turn{"begin 0 1", "ok"},
		turn{"calm", "calm 2"},
		turn{"world", "world 51 0 50 50 100 50"},
		turn{"serial", "world 51 0 50 50 100 50"},
		turn{"calm", "calm 0"},
	)
}

// The deals that were done are told as they were decided, not as they began.
func TestDoneAsDecided(t *testing.T) {
	talk(t,
		turn{"begin 0 1", "ok"},
		turn{"begin 1 1", "ok"},
		turn{"begin 2 1", "ok"},
		turn{"done", "done"},
		turn{"tick", "ok"},
		turn{"deliver 2", "ok"},
		turn{"deliver 2", "ok"},
		turn{"done", "done 2"},
		turn{"deliver 0", "ok"},
		turn{"deliver 1", "ok"},
		turn{"done", "done 2 0"},
		turn{"calm", "calm 1"},
		turn{"done", "done 2 0 1"},
	)
}

// Holds are told in the order in which they came, of the one shop; behind them nothing is held.
func TestHolds(t *testing.T) {
	talk(t,
		turn{"begin 1 -3 4 9", "ok"},
		turn{"begin 0 8 1 -2", "ok"},
		turn{"begin 0 -50", "ok"},
		turn{"tick", "ok"},
		turn{"deliver 4", "ok"},
		turn{"deliver 3", "ok"},
		turn{"deliver 0", "ok"},
		turn{"holds 0", "count 50 50 0|count 50 5 0|hold 2 0 -50|hold 1 1 -2|hold 0 1 -3|end"},
		turn{"deliver 1", "ok"},
		turn{"holds 0", "count 50 50 8|count 50 5 0|hold 2 0 -50|hold 1 1 -2|hold 0 1 -3|hold 1 0 8|end"},
		turn{"holds 1", "count 50 0 0|count 50 0 0|end"},
		turn{"holds 2", "count 50 0 0|count 50 0 0|end"},
		turn{"calm", "calm 1"},
		turn{"holds 0", "count 8 0 0|count 45 0 0|end"},
		turn{"holds 2", "count 59 0 0|count 50 0 0|end"},
	)
}

// What was told in one Do is not told again in the next, behind a fault, too.
func TestToldOnce(t *testing.T) {
	d := desk.New()
	for range 3 {
		tells(t, d, "world", "world 50 50 50 50 50 50")
		tells(t, d, "", "")
		tells(t, d, "x", "what")
		refuses(t, d, []string{"world", "\n"}, api.Fault{Code: api.ErrLine, At: 1})
		refuses(t, d, make([]string, api.MaxLines+1), api.Fault{Code: api.ErrMany, At: -1})
		if told := do(t, d); told != "" {
			t.Errorf("no lines: %q", told)
		}
	}
}

// A text that was told stays as it is, whatever is told later.
func TestToldStays(t *testing.T) {
	d := desk.New()
	first := do(t, d, "world", "holds 0")
	kept := strings.Clone(first)
	for range 20 {
		do(t, d, "begin 0 -9 5 9", "tick", "calm", "mail", "due", "x")
		if first != kept {
			t.Fatalf("%q, was %q", first, kept)
		}
	}
}

// Two desks know nothing of each other, nor a desk that comes later.
func TestDesksApart(t *testing.T) {
	one, other := desk.New(), desk.New()
	first := do(t, other, looks()...)
	do(t, one, busy()...)
	if got := do(t, other, looks()...); got != first {
		t.Errorf("%q, was %q", got, first)
	}
	if got := do(t, desk.New(), looks()...); got != first {
		t.Errorf("a later one: %q, want %q", got, first)
	}
	busyOne := do(t, one, looks()...)
	do(t, other, "begin 0 -50", "calm", "broker", "shop 0")
	if got := do(t, one, looks()...); got != busyOne {
		t.Errorf("%q, was %q", got, busyOne)
	}
}

// Lines are not kept: what becomes of their list later changes nothing, and what lies behind its length is not read.
func TestLinesAreNotKept(t *testing.T) {
	d := desk.New()
	handed := []string{"begin 0 -20 3 20", "tick", "begin 1 1", "a\nb"}
	told, fault := d.Do(handed[:2])
	if told != "ok\nok\n" || fault != (api.Fault{}) {
		t.Fatalf("%q %+v", told, fault)
	}
	if handed[2] != "begin 1 1" || handed[3] != "a\nb" {
		t.Errorf("behind the length: %q", handed)
	}
	clear(handed)
	tells(t, d, "mail", "ask 0 0 0 -20|ask 0 1 3 20|end")
	if told != "ok\nok\n" {
		t.Errorf("%q", told)
	}
	tells(t, d, "state 1", "state -1")
}
