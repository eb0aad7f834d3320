package desk_test

import (
	"fmt"
	"math/big"
	"regexp"
	"strings"
	"testing"

	"handsel/api"
	"handsel/desk"
)

const (
	least      = "-9223372036854775808"
	greatest   = "9223372036854775807"
	belowLeast = "-9223372036854775809"
	tooGreat   = "9223372036854775808"
)

// alone are the words that stand without numbers, withOne those that have one.
func alone() []string {
	return []string{"tick", "broker", "calm", "world", "serial", "done", "mail", "due"}
}

func withOne() []string {
	return []string{"deliver", "lose", "double", "quit", "shop", "state", "holds"}
}

func TestLinesWithoutWords(t *testing.T) {
	d := desk.New()
	for _, line := range []string{"", " ", "  ", strings.Repeat(" ", 1000)} {
		before := do(t, d, looks()...)
		tells(t, d, line, "")
		if got := do(t, d, looks()...); got != before {
			t.Errorf("%q: %q, was %q", line, got, before)
		}
	}
	talk(t, turn{"", ""}, turn{"tick", "ok"}, turn{" ", ""}, turn{"x", "what"}, turn{"   ", ""})
}

// Blanks ahead, behind and between are only there to part words.
func TestBlanks(t *testing.T) {
	talk(t,
		turn{" begin 0 -20 3 20", "ok"},
		turn{"begin   0  -40 5    40   ", "ok"},
		turn{"     due ", "ask 0 0 0 -20|ask 0 1 3 20|ask 1 0 0 -40|ask 1 2 5 40|end"},
		turn{"tick ", "ok"},
		turn{"  deliver   2  ", "ok"},
		turn{"holds" + strings.Repeat(" ", 5000) + "0", "count 50 40 0|count 50 0 0|hold 1 0 -40|end"},
		turn{"st ate 0", "what"},
		turn{"state - 1", "what"},
		turn{" calm ", "calm 1"},
		turn{"  done  ", "done 1"},
		turn{"  what  ", "what"},
	)
}

// As many wants as there may be, and one more; with one number too few it is no begin at all.
func TestBegins(t *testing.T) {
	line := "begin"
	for n := range api.MaxWants + 3 {
		told := "ok"
		switch {
		case n == 0:
			told = "no 2"
		case n > api.MaxWants:
			told = "no 3"
		}
		tells(t, desk.New(), line, told)
		// The numbers are counted ahead of looking at them.
		for _, odd := range []string{" 0", " -1", " 99", " " + greatest} {
			isNone(t, desk.New(), line+odd)
		}
		line += fmt.Sprintf(" %d 1", n)
	}
	tells(t, desk.New(), "begin"+strings.Repeat(" 1", 20000), "no 3")
	isNone(t, desk.New(), "begin"+strings.Repeat(" 1", 20001))
	isNone(t, desk.New(), "begin"+strings.Repeat(" 1", 20001)+" x")
}

// The pair of a want is Counter, Delta, and the wants stand as they were told.
func TestBeginTakesPairs(t *testing.T) {
	talk(t,
		turn{"begin 5 2 0 4 3 -1 1 5", "ok"},
		turn{"begin 2 5", "ok"},
		turn{"due", "ask 0 2 5 2|ask 0 0 0 4|ask 0 1 3 -1|ask 0 0 1 5|ask 1 1 2 5|end"},
	)
}

func TestShopsAtTheEdges(t *testing.T) {
	d := behind(t, "begin 0 -1 5 1", "tick", "deliver 0", "deliver 0")
	tells(t, d, "holds 0", "count 50 1 0|count 50 0 0|hold 0 0 -1|end")
	tells(t, d, "holds 1", "count 50 0 0|count 50 0 0|end")
	tells(t, d, "holds 2", "count 50 0 0|count 50 0 1|hold 0 5 1|end")
	for _, s := range []string{"-1", "3", "4", "-3", least, greatest, "4294967296", "-4294967296"} {
		tells(t, d, "holds "+s, "no 1")
		tells(t, d, "shop "+s, "no 1")
	}
	for _, s := range []string{"0", "1", "2"} {
		tells(t, d, "shop "+s, "ok")
	}
}

// Each word with a number takes all numbers of 64 bits, and none beyond.
func TestNumbersAtTheEdges(t *testing.T) {
	told := map[string]string{"deliver": "no 7", "lose": "no 7", "double": "no 7", "quit": "no 7", "shop": "no 1", "state": "state -1", "holds": "no 1"}
	for _, word := range withOne() {
		for _, n := range []string{"-1", least, "-9223372036854775807", greatest, "9223372036854775806", "4294967296", "-2147483649"} {
			tells(t, desk.New(), word+" "+n, told[word])
		}
		for _, n := range []string{belowLeast, tooGreat, "18446744073709551615", "18446744073709551616", "-18446744073709551616", "1" + strings.Repeat("0", 5000)} {
			isNone(t, desk.New(), word+" "+n)
		}
	}
	for _, n := range []string{least, greatest} {
		tells(t, desk.New(), "begin 0 "+n, "no 1")
		tells(t, desk.New(), "begin "+n+" 1", "no 1")
	}
	for _, n := range []string{belowLeast, tooGreat, "18446744073709551616"} {
		isNone(t, desk.New(), "begin 0 "+n)
		isNone(t, desk.New(), "begin "+n+" 1")
		isNone(t, desk.New(), "begin 0 1 1 "+n)
	}
}

// Mail is counted round, by numbers as far as they go.
func TestMailCountedRound(t *testing.T) {
	asks := []string{"ask 0 0 0 1", "ask 0 0 1 1", "ask 0 1 2 1"}
	// Without sign the least is 2^63, which leaves 2 of three; the greatest leaves 1; -1 is 2^64 - 1, which leaves 0.
	for n, at := range map[string]int{"0": 0, "1": 1, "2": 2, "3": 0, "5": 2, "-1": 0, "-2": 2, least: 2, greatest: 1} {
		d := behind(t, "begin 0 1 1 1 2 1", "tick")
		tells(t, d, "double "+n, "ok")
		tells(t, d, "mail", strings.Join(append(asks[:3:3], asks[at], "end"), "|"))
		d = behind(t, "begin 0 1 1 1 2 1", "tick")
		tells(t, d, "lose "+n, "ok")
		left := append(append(asks[:0:0], asks[:at]...), asks[at+1:]...)
		tells(t, d, "mail", strings.Join(append(left, "end"), "|"))
	}
}

// Texts that are no numbers, or longer than they need be.
func TestWrongNumbers(t *testing.T) {
	wrong := []string{
		"+0", "+1", "++1", "00", "01", "000", "-01", "-00", "-0", "--1", "-", "+", "1-", "0-", "- 1",
		"1.0", "0.", ".0", "1,0", "1e0", "1E1", "x", "a", "one", "0x", "1x", "x1", "NaN", "Inf", "nil", "true",
		"0_0", "1_0", "_1", "1_", "0x0", "0X1", "0b1", "0o7", "0x1p0", "#1", "1;", "'1'", "\"1\"", "(1)", "1\x00", "\x001", "\x00",
		"1\t", "\t1", "\t", "1\r", "\u00a01", "1\u00a0", "\u2003", "\u0661", "\uff11", "\u2212" + "1", "\ufeff1", "\xff", "1\xff", "\xc0\xb1", "\xe2\x88",
		"0" + greatest, "+" + greatest,
	}
	for _, n := range wrong {
		for _, word := range withOne() {
			isNone(t, behind(t, busy()...), word+" "+n)
		}
		d := behind(t, busy()...)
		isNone(t, d, "begin 0 "+n)
		isNone(t, d, "begin "+n+" 1")
		isNone(t, d, "begin 0 1 1 "+n)
		isNone(t, d, "begin "+n)
	}
}

// All short texts of some bytes, held against what a number is by its form.
func TestAllShortNumbers(t *testing.T) {
	number := regexp.MustCompile(`^ *(0|-?[1-9][0-9]*) *$`)
	d := behind(t, busy()...)
	var try func(tail string)
	try = func(tail string) {
		told := do(t, d, "state "+tail)
		if is := number.MatchString(tail); is != strings.HasPrefix(told, "state ") || !is && told != "what\n" {
			t.Errorf("%q: %q", tail, told)
		}
		for i := 0; i < len("012-+ _.") && len(tail) < 5; i++ {
			try(tail + "012-+ _."[i:i+1])
		}
	}
	try("")
}

// Numbers about the edges of 64 bits, and about nought, which no want may have: else its second want has the code.
func TestNumbersAboutTheEdges(t *testing.T) {
	d := desk.New()
	for _, edge := range []string{least, greatest, "0", "4294967296", "18446744073709551616"} {
		n, _ := new(big.Int).SetString(edge, 10)
		n.Sub(n, big.NewInt(30))
		for range 60 {
			told := "what"
			switch {
			case n.Sign() == 0:
				told = "no 2"
			case n.IsInt64():
				told = "no 1"
			}
			tells(t, d, "begin 0 "+n.String()+" 6 1", told)
			n.Add(n, big.NewInt(1))
		}
	}
}

// Words that are none of these, and those that are in other letters.
func TestWrongWords(t *testing.T) {
	d := behind(t, busy()...)
	for _, word := range []string{
		"what", "ok", "no", "ask", "say", "end", "over", "yes", "count", "hold", "open", "x", "0", "-1", "1 2", "tick tick", "tick;", "ticks", "tic",
		"crash", "step", "do", "new", "help", "deal", "hold 0", "clerk 0", "len", "wants 0", "\x00", "\xff", "\xff\xfe", "-", "+", "\t", "\r", "\v", "\f", "\u00a0",
		strings.Repeat("x", 10000), strings.Repeat("x ", 10000), strings.Repeat("tick", 1000),
	} {
		isNone(t, d, word)
	}
	for _, word := range append(alone(), "begin") {
		for _, other := range []string{strings.ToUpper(word), strings.ToUpper(word[:1]) + word[1:], word + word, word[1:], word[:len(word)-1], word + "s", "\xef\xbb\xbf" + word} {
			isNone(t, d, other)
			isNone(t, d, other+" 0 1")
		}
	}
	for _, word := range withOne() {
		for _, other := range []string{strings.ToUpper(word), strings.ToUpper(word[:1]) + word[1:], word + word, word[1:], word[:len(word)-1], word + "s"} {
			isNone(t, d, other+" 0")
		}
	}
	// Letters that are another one's small or great form are other letters.
	for _, word := range []string{"tic\u212a", "bro\u212aer", "\u017ferial"} {
		isNone(t, d, word)
	}
}

// A word that is there with a number too few, or too many.
func TestWrongHowMany(t *testing.T) {
	d := behind(t, busy()...)
	for _, word := range alone() {
		for _, tail := range []string{" 0", " 1", " -1", " 0 0", " 0 1 2", " x", " " + word} {
			isNone(t, d, word+tail)
		}
	}
	for _, word := range withOne() {
		for _, tail := range []string{"", " ", " 0 0", " 0 1", " 0 0 0", " 0 x", " x", " x 0", " " + word, " " + word + " 0"} {
			isNone(t, d, word+tail)
		}
	}
	for _, tail := range []string{" 0", " x", " 0 1 2", " 0 1 x", " x 1", " 0 x", " begin", " 0 1 begin 0 1", " 0 1 tick"} {
		isNone(t, d, "begin"+tail)
	}
	for _, line := range []string{"0 state", "0", "1 begin 0", "-20 begin 0"} {
		isNone(t, d, line)
	}
}

// Of all bytes the blank alone parts words, and the newline alone is a fault.
func TestEachByteBetweenWords(t *testing.T) {
	d := behind(t, busy()...)
	for b := range 256 {
		x := string([]byte{byte(b)})
		for _, line := range []string{"state" + x + "0", "state 0" + x, x + "state 0", "state " + x + "0", "state" + x + " 0", "tick" + x + "begin"} {
			told, fault := d.Do([]string{line})
			switch {
			case x == "\n":
				if told != "" || fault != (api.Fault{Code: api.ErrLine, At: 0}) {
					t.Errorf("%q: %q %+v", line, told, fault)
				}
			case x == " " && !strings.HasPrefix(line, "tick"):
				if told != "state 1\n" || fault != (api.Fault{}) {
					t.Errorf("%q: %q %+v", line, told, fault)
				}
			// A digit but nought ahead of the nought makes another number.
			case line == "state "+x+"0" && x >= "1" && x <= "9":
				if told != "state -1\n" || fault != (api.Fault{}) {
					t.Errorf("%q: %q %+v", line, told, fault)
				}
			case told != "what\n" || fault != (api.Fault{}):
				t.Errorf("%q: %q %+v", line, told, fault)
			}
		}
	}
}

// Bytes that are no text ahead of, behind and between blanks: a blank parts them all the same.
func TestBytesThatAreNoText(t *testing.T) {
	d := behind(t, busy()...)
	for _, x := range []string{"\xff", "\xc3", "\xe2", "\xe2\x80", "\xf0\x9f\x98", "\xc0\xa0", "\x80", "\xed\xa0\x80", "\u00a0", "\u3000", "\u2028", "\u0085"} {
		for _, line := range []string{x, x + " tick", x + "tick", "tick " + x, "tick" + x, "state 0 " + x, "state " + x + " 0", "state" + x + "0", "  " + x + "  ", "begin 0 1 " + x + " 1"} {
			isNone(t, d, line)
		}
	}
}
