package desk_test

import (
	"fmt"
	"strings"
	"testing"

	"handsel/api"
	"handsel/desk"
)

// draw is a row of numbers that looks like none, and is the same each time.
type draw uint64

func (d *draw) below(n int) int {
	*d = *d*6364136223846793005 + 1442695040888963407
	return int(uint64(*d) >> 33 % uint64(n))
}

func (d *draw) of(all ...string) string {
	return all[d.below(len(all))]
}

// number draws mostly what is near, and now and then whatever is far, or none.
func (d *draw) number() string {
	switch d.below(24) {
	case 0:
		return d.of(least, greatest, belowLeast, tooGreat, "4294967296", "-4294967296")
	case 1:
		return d.of("+1", "01", "-0", "x", "1.5", "1_0", "0x1", "--1", "-", "\t1", "\xff", "1\r")
	}
	return fmt.Sprint(d.below(14) - 2)
}

// begin draws mostly what a deal may want.
func (d *draw) begin() string {
	line, at := "begin", d.below(api.Counters)
	for range 1 + d.below(api.MaxWants) {
		line += fmt.Sprintf(" %d %d", at%api.Counters, 1+d.below(30)-31*d.below(2))
		at += 1 + d.below(2)
	}
	switch d.below(12) {
	case 0:
		line += " " + d.number()
	case 1:
		line += " " + d.number() + " " + d.number()
	case 2:
		line += strings.Repeat(" 1 1", d.below(4))
	}
	return line
}

// line draws mostly mail that comes, and now and then what is none, or blanks more than need be.
func (d *draw) line() string {
	line := d.of("deliver ", "deliver ", "deliver ", "lose ", "double ", "quit ", "shop ", "state ", "holds ") + d.number()
	switch d.below(16) {
	case 0, 1, 2:
		line = d.begin()
	case 3, 4:
		line = "tick"
	case 5, 6, 7:
		line = d.of("world", "serial", "done", "mail", "due")
	case 8:
		line = d.of("calm", "broker", "", "  ", "what", "ok", "tick 0", "Tick", "state", "begin", "x y", "state 0 0", "\xff")
	}
	if d.below(8) == 0 {
		line = strings.Repeat(" ", d.below(3)) + strings.ReplaceAll(line, " ", strings.Repeat(" ", 1+d.below(3))) + strings.Repeat(" ", d.below(3))
	}
	return line
}

func (d *draw) lines(n int) []string {
	var all []string
	for range n {
		all = append(all, d.line())
	}
	return all
}

// checkCuts: what two Do tell one behind the other one Do of both tells, wherever the list is cut.
func checkCuts(t *testing.T, lines []string) {
	t.Helper()
	whole := desk.New()
	told := do(t, whole, lines...)
	left := do(t, whole, looks()...)
	for at := range len(lines) + 1 {
		d := desk.New()
		if got := do(t, d, lines[:at]...) + do(t, d, lines[at:]...); got != told {
			t.Fatalf("%q cut at %d: %q, want %q", lines, at, got, told)
		}
		if got := do(t, d, looks()...); got != left {
			t.Fatalf("%q cut at %d: %q is left, want %q", lines, at, got, left)
		}
	}
}

func TestCuts(t *testing.T) {
	checkCuts(t, nil)
	checkCuts(t, []string{""})
	checkCuts(t, []string{"world"})
	checkCuts(t, append(append(busy(), looks()...), "calm", "world"))
	checkCuts(t, append(append(busy(), "calm", "x", "  "), looks()...))
	var d draw
	for range 150 {
		checkCuts(t, d.lines(d.below(60)))
	}
	for range 3 {
		checkCuts(t, d.lines(api.MaxLines))
	}
}

// More lines than one Do takes, cut into many pieces, however long they are: as when each is done alone.
func TestManyCuts(t *testing.T) {
	var d draw
	for range 30 {
		lines, pieces, one := d.lines(500), desk.New(), desk.New()
		got, want := "", ""
		for _, line := range lines {
			want += do(t, one, line)
		}
		for at := 0; at < len(lines); {
			next := min(at+d.below(api.MaxLines+1), len(lines))
			got += do(t, pieces, lines[at:next]...)
			at = next
		}
		if got != want {
			t.Fatalf("%q: %q, want %q", lines, got, want)
		}
	}
}

// The same lines tell the same, each time.
func TestSameAgain(t *testing.T) {
	var d draw
	for range 30 {
		lines := d.lines(api.MaxLines)
		told := do(t, desk.New(), lines...)
		for range 3 {
			if got := do(t, desk.New(), lines...); got != told {
				t.Fatalf("%q: %q, was %q", lines, got, told)
			}
		}
	}
}
