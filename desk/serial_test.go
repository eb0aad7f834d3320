package desk

import (
	"testing"

	"handsel/api"
)

// A deal that is said to be held, by none of the town's mail, when it can't be: no line leads there, so the town is told past the desk.
func TestSerialOfWhatCantBe(t *testing.T) {
	for _, c := range []struct{ begin, told string }{
		{"begin 0 -51", "no 5\n"},
		{"begin 0 51", "no 6\n"},
	} {
		d := New()
		d.Do([]string{"begin 5 1", c.begin})
		for n := range 2 {
			w := d.town.Wants(n)[0]
			d.town.Hear(api.Mail{Kind: api.MSay, Deal: n, Shop: w.Counter / api.PerShop, Want: w, Yes: true})
		}
		told, fault := d.Do([]string{"serial", "world", "done"})
		if want := c.told + "world 50 50 50 50 50 50\ndone 0 1\n"; told != want || fault != (api.Fault{}) {
			t.Errorf("%q: %q %+v, want %q", c.begin, told, fault, want)
		}
	}
}

// Behind a Do a desk has nothing to tell.
func TestNothingIsLeftToTell(t *testing.T) {
	d := New()
	for _, lines := range [][]string{nil, {"world", "x"}, {"\n"}, make([]string, api.MaxLines+1), {"holds 0"}} {
		d.Do(lines)
		if d.Len() != 0 || d.Cap() != 0 {
			t.Errorf("%q: %q is left", lines, d.String())
		}
	}
}
