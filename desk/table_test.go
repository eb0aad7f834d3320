package desk_test

import (
	"fmt"
	"regexp"
	"strconv"
	"strings"
	"testing"

	"handsel/api"
	"handsel/desk"
	"handsel/town"
)

const number = ` +(?:0|-?[1-9][0-9]*)`

var (
	noWords = regexp.MustCompile(`^ *$`)
	oneWord = regexp.MustCompile(`[^ ]+`)
	known   = regexp.MustCompile(`^ *(?:begin(?:` + number + number + `)*|(?:deliver|lose|double|quit|shop|state|holds)` + number + `|tick|broker|calm|world|serial|done|mail|due) *$`)
)

// table is the chapter's table in the plainest form: a form of all lines, and what the town tells of them.
type table struct {
	x *town.Town
}

func newTable() table {
	return table{town.New(api.World{50, 50, 50, 50, 50, 50})}
}

// ints are the numbers of a line behind its first word; false: one is none of 64 bits.
func ints(line string) ([]int, bool) {
	var all []int
	for _, word := range oneWord.FindAllString(line, -1)[1:] {
		n, err := strconv.ParseInt(word, 10, 64)
		if err != nil {
			return nil, false
		}
		all = append(all, int(n))
	}
	return all, true
}

func (b table) tell(line string) string {
	switch {
	case noWords.MatchString(line):
		return ""
	case !known.MatchString(line):
		return "what\n"
	}
	numbers, ok := ints(line)
	if !ok {
		return "what\n"
	}
	return b.does(strings.TrimLeft(line, " "), numbers)
}

// does does a line that is known by its first letters.
func (b table) does(line string, numbers []int) string {
	kinds := []struct {
		letters string
		kind    int
	}{
		{"ti", api.STick}, {"br", api.SBroker}, {"del", api.SDeliver}, {"lo", api.SLose}, {"dou", api.SDouble}, {"q", api.SQuit}, {"sh", api.SShop},
	}
	for _, k := range kinds {
		if strings.HasPrefix(line, k.letters) {
			return step(b.x.Step(api.Step{Kind: k.kind, N: append(numbers, 0)[0]}))
		}
	}
	switch line[0] {
	case 'b':
		var l []api.Want
		for ; len(numbers) > 0; numbers = numbers[2:] {
			l = append(l, api.Want{Counter: numbers[0], Delta: numbers[1]})
		}
		return step(b.x.Step(api.Step{Kind: api.SBegin, Wants: l}))
	case 'c':
		return fmt.Sprintf("calm %d\n", b.x.Calm())
	case 'h':
		return b.holds(numbers[0])
	}
	return b.looks(line, numbers)
}

func step(code int) string {
	if code != 0 {
		return fmt.Sprintf("no %d\n", code)
	}
	return "ok\n"
}

// looks is of lines that do nothing.
func (b table) looks(line string, numbers []int) string {
	switch line[:2] {
	case "wo":
		return row("world", b.x.World())
	case "se":
		w, _ := b.x.Serial()
		return row("world", w)
	case "st":
		return fmt.Sprintf("state %d\n", b.x.State(numbers[0]))
	case "do":
		return row("done", b.x.Done())
	case "ma":
		return mails(b.x.Mail())
	}
	return mails(b.x.Due())
}

// row is a word and a list of numbers, whose brackets are left out.
func row(word string, list any) string {
	return strings.TrimRight(word+" "+strings.Trim(fmt.Sprint(list), "[]"), " ") + "\n"
}

func mails(all []api.Mail) string {
	told := ""
	for _, m := range all {
		word := map[int]string{api.MAsk: "ask", api.MSay: "say", api.MEnd: "end", api.MOver: "over"}[m.Kind]
		yes := map[bool]string{true: " yes"}[m.Yes]
		told += fmt.Sprintf("%s %d %d %d %d%s\n", word, m.Deal, m.Shop, m.Want.Counter, m.Want.Delta, yes)
	}
	return told + "end\n"
}

func (b table) holds(s int) string {
	c := b.x.Clerk(s)
	if c == nil {
		return "no 1\n"
	}
	told := ""
	for _, n := range c.Counts() {
		told += fmt.Sprintf("count %d %d %d\n", n.Value, n.Out, n.In)
	}
	for _, h := range c.Holds() {
		told += fmt.Sprintf("hold %d %d %d\n", h.Deal, h.Counter, h.Delta)
	}
	return told + "end\n"
}

// Long lists of all lines, good and wrong, told as by the table; and each kind of thing is told often.
func TestLinesByTheTable(t *testing.T) {
	var d draw
	often := map[string]int{}
	for range 300 {
		x, b := desk.New(), newTable()
		for _, line := range d.lines(api.MaxLines) {
			got, want := do(t, x, line), b.tell(line)
			if got != want {
				t.Fatalf("%q: %q, want %q", line, got, want)
			}
			for _, told := range strings.SplitAfter(got, "\n") {
				words := strings.Fields(told + " ")
				if len(words) > 0 {
					often[words[0]+map[bool]string{true: " yes"}[words[len(words)-1] == "yes"]]++
				}
			}
		}
	}
	for _, word := range []string{"ok", "no", "what", "calm", "world", "state", "done", "ask", "say", "say yes", "end", "end yes", "over", "over yes", "count", "hold"} {
		if often[word] < 50 {
			t.Errorf("%q is told %d times", word, often[word])
		}
	}
}

// Lines that are pieced together from words, numbers and bytes as it comes.
func TestPiecesByTheTable(t *testing.T) {
	var d draw
	known := 0
	for range 400 {
		x, b := desk.New(), newTable()
		for range api.MaxLines {
			line := ""
			for range 1 + d.below(6) {
				line += d.of(append(append(alone(), withOne()...), "begin", "begin")...)[d.below(16)/15:]
				line += d.of("", " ", " ", " ", "  ", "\t", "\xff", "\xe2 ", "-")
				line += d.of("", "", "0", "1", "2 ", " 3 1", "10", "-1", "0 -1 1 1", "01", "+1", "\xe2\x80 ")
				if d.below(3) > 0 {
					break
				}
			}
			got, want := do(t, x, line), b.tell(line)
			if got != want {
				t.Fatalf("%q: %q, want %q", line, got, want)
			}
			if got != "what\n" {
				known++
			}
		}
	}
	if known < 5000 {
		t.Errorf("only %d lines were known", known)
	}
}
