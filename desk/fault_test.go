package desk_test

import (
	"slices"
	"strings"
	"testing"

	"handsel/api"
	"handsel/desk"
)

func atLine(n int) api.Fault {
	return api.Fault{Code: api.ErrLine, At: n}
}

func tooMany() api.Fault {
	return api.Fault{Code: api.ErrMany, At: -1}
}

func TestNoLines(t *testing.T) {
	for _, lines := range [][]string{nil, {}, make([]string, 0, 10), busy()[:0]} {
		d := behind(t, busy()...)
		before := do(t, d, looks()...)
		told, fault := d.Do(lines)
		if told != "" || fault != (api.Fault{}) {
			t.Errorf("%q: %q %+v", lines, told, fault)
		}
		if got := do(t, d, looks()...); got != before {
			t.Errorf("%q: %q, was %q", lines, got, before)
		}
	}
}

// MaxLines lines are done, all of them; with one more none is, whatever stands in them.
func TestMaxLines(t *testing.T) {
	for _, x := range []turn{{"", ""}, {" ", ""}, {"x", "what"}, {"tick", "ok"}, {"world", "world 50 50 50 50 50 50"}} {
		lines := slices.Repeat([]string{x.line}, api.MaxLines)
		if got, want := do(t, desk.New(), lines...), strings.Repeat(text(x.told), api.MaxLines); got != want {
			t.Errorf("%d of %q: %q", len(lines), x.line, got)
		}
		for _, more := range []int{1, 2, api.MaxLines, 100 * api.MaxLines} {
			refuses(t, desk.New(), append(slices.Clip(lines), slices.Repeat([]string{x.line}, more)...), tooMany())
		}
	}
	lines := slices.Repeat([]string{""}, api.MaxLines)
	lines[api.MaxLines-1] = "begin 0 1"
	d := behind(t, lines...)
	tells(t, d, "state 0", "state 0")
	refuses(t, d, append(lines, ""), tooMany())
	refuses(t, d, append([]string{"quit 0", "begin 0 1", "tick", "broker"}, lines...), tooMany())
	tells(t, d, "state 1", "state -1")
}

// A newline, wherever in a line, and in whichever line: the first of them is told.
func TestNewlines(t *testing.T) {
	good := []string{"begin 1 1", "tick", "quit 3", "deliver 0", "broker"}
	for _, bad := range []string{"\n", "\n\n", "tick\n", "\ntick", "ti\nck", "state\n0", " \n ", "x\n", "\r\n", "\xff\n\xff", strings.Repeat("x", 5000) + "\n", "calm\n"} {
		for at := range len(good) + 1 {
			lines := slices.Insert(slices.Clone(good), at, bad)
			refuses(t, behind(t, busy()...), lines, atLine(at))
			for later := at + 1; later <= len(lines); later++ {
				refuses(t, behind(t, busy()...), slices.Insert(slices.Clone(lines), later, "\n"), atLine(at))
			}
		}
		refuses(t, desk.New(), []string{bad}, atLine(0))
		refuses(t, desk.New(), []string{bad, bad, bad}, atLine(0))
	}
}

// The last of as many lines as there may be; with one more that is told first.
func TestNewlinesAndTooMany(t *testing.T) {
	for _, at := range []int{0, 1, api.MaxLines - 1} {
		lines := slices.Repeat([]string{"begin 0 1"}, api.MaxLines)
		lines[at] = "a\nb"
		refuses(t, desk.New(), lines, atLine(at))
		refuses(t, desk.New(), append(lines, "tick"), tooMany())
	}
	refuses(t, desk.New(), slices.Repeat([]string{"\n"}, api.MaxLines), atLine(0))
	refuses(t, desk.New(), slices.Repeat([]string{"\n"}, api.MaxLines+1), tooMany())
	lines := append(slices.Repeat([]string{"tick"}, api.MaxLines), "\n")
	refuses(t, desk.New(), lines, tooMany())
	// Behind the list's length it is no line.
	if told, fault := desk.New().Do(lines[:api.MaxLines]); told != strings.Repeat("ok\n", api.MaxLines) || fault != (api.Fault{}) {
		t.Errorf("%q %+v", told, fault)
	}
}

// Other bytes that end lines elsewhere are bytes of words here.
func TestNoNewlines(t *testing.T) {
	for _, x := range []string{"\r", "\v", "\f", "\x85", "\u0085", "\u2028", "\u2029", "\\n", "\x00"} {
		isNone(t, behind(t, busy()...), "tick"+x)
		isNone(t, behind(t, busy()...), x)
	}
}

// A desk goes on behind a fault as if it had not been.
func TestGoesOnBehindFaults(t *testing.T) {
	d, plain := desk.New(), desk.New()
	for _, line := range append(busy(), "calm", "x", "", "world", "serial", "done") {
		refuses(t, d, []string{line, "\n" + line}, atLine(1))
		refuses(t, d, slices.Repeat([]string{line}, api.MaxLines+1), tooMany())
		if got, want := do(t, d, line), do(t, plain, line); got != want {
			t.Errorf("%q: %q, want %q", line, got, want)
		}
	}
}
