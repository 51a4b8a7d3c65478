package disk

import "tallyhouse/api"

// never is the count of what does not come.
const never = -1

// counts is what is to come: how many Writes and Syncs still go well till the power goes, and how many requests go by till one fails.
type counts struct {
	armed, doomed int
}

// noCounts is needed as 0 counts: what is armed with 0 loses its power at once.
func noCounts() counts {
	return counts{never, never}
}

func (c *counts) arm(n int) {
	c.armed = max(n, never)
}

func (c *counts) doom(n int) {
	c.doomed = max(n, never)
}

// meet is what a request comes to. One that fails does not go well: it leaves alone what the disk is armed with.
func (c *counts) meet(changes bool) api.Errno {
	switch {
	case changes && c.armed == 0:
		return api.ErrDead
	case c.doomed == 0:
		c.doomed = never
		return api.ErrIo
	}
	if changes {
		c.armed = less(c.armed)
	}
	c.doomed = less(c.doomed)
	return api.OK
}

// less is a count behind one more request; what never comes stays so.
func less(n int) int {
	if n > 0 {
		return n - 1
	}
	return n
}
