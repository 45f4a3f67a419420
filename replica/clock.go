package replica

import (
	"concordat/api"
	"concordat/stamp"
)

// clock of a replica: embedded there, it tells the replica's time, and whose it is. A stamp.Clock that is embedded as it is would give Tick and Hear out, too, by which anybody could set a replica's time.
type clock struct{ c stamp.Clock }

// Time of what is known.
func (c *clock) Time() int { return c.c.Time() }

// By whom.
func (c *clock) By() int { return c.c.By() }

// next stamp that it would tell: a copy ticks, for only what is joined moves the time.
func (c *clock) next() (api.Stamp, error) {
	later := c.c
	return later.Tick()
}

// hear a right stamp.
func (c *clock) hear(s api.Stamp) { c.c.Hear(s) }
