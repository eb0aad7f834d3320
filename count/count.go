// Package count: see doc/01-count.md.
package count

import (
	"handsel/api"
)

// Check tells why a counter may not be; 0: it may.
func Check(c api.Count) int {
	switch {
	case c.Value < 0 || c.Value > api.MaxValue:
		return api.ErrRange
	case c.Out < 0 || c.Out > c.Value:
		return api.ErrShort
	// In is held against the room that is left, since Value and In could wrap round.
	case c.In < 0 || c.In > api.MaxValue-c.Value:
		return api.ErrFull
	}
	return 0
}

// Delta tells why a counter can't have n more; 0: it can.
func Delta(n int) int {
	switch {
	case n == 0:
		return api.ErrForm
	case n < -api.MaxValue || n > api.MaxValue:
		return api.ErrRange
	}
	return 0
}

// Hold answers the counter with n more (below 0: less) held.
func Hold(c api.Count, n int) (api.Count, int) {
	if code := checkBoth(c, n); code != 0 {
		return api.Count{}, code
	}
	if n < 0 {
		c.Out -= n
	} else {
		c.In += n
	}
	switch {
	case Low(c) < 0:
		return api.Count{}, api.ErrShort
	case High(c) > api.MaxValue:
		return api.Count{}, api.ErrFull
	}
	return c, 0
}

// End answers the counter with n held no longer, and, if done, in its value.
func End(c api.Count, n int, done bool) (api.Count, int) {
	if code := checkBoth(c, n); code != 0 {
		return api.Count{}, code
	}
	if n < 0 {
		c.Out += n
	} else {
		c.In -= n
	}
	if c.Out < 0 || c.In < 0 {
		return api.Count{}, api.ErrNone
	}
	if done {
		c.Value += n
	}
	return c, 0
}

// Low is the least that a counter may come to.
func Low(c api.Count) int {
	return c.Value - c.Out
}

// High is the most that a counter may come to.
func High(c api.Count) int {
	return c.Value + c.In
}

// checkBoth is asked ahead of all reckoning: what has no code is so small that no sum of it wraps round.
func checkBoth(c api.Count, n int) int {
	if code := Check(c); code != 0 {
		return code
	}
	return Delta(n)
}
