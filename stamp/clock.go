package stamp

import "concordat/api"

// moment is a stamp by another name: embedded as api.Stamp it would be an exported field.
type moment api.Stamp

// Clock of a replica: the greatest time that it told or heard, as a stamp of its own. A nil clock, which New answers beside its error, is that of no replica: ErrBound here too.
type Clock struct{ moment }

// New clock.
func New(by int) (*Clock, error) {
	if !isReplica(by) {
		return nil, api.ErrBound
	}
	return &Clock{moment{By: by}}, nil
}

// Tick tells a new stamp.
func (c *Clock) Tick() (api.Stamp, error) {
	if c == nil {
		return api.Stamp{}, api.ErrBound
	}
	if c.moment.Time >= api.MaxTime {
		return api.Stamp{}, api.ErrFull
	}
	c.moment.Time++
	return api.Stamp(c.moment), nil
}

// Hear a stamp.
func (c *Clock) Hear(s api.Stamp) error {
	if err := Check(s); err != nil {
		return err
	}
	if c == nil {
		return api.ErrBound
	}
	if s.Time > c.moment.Time {
		c.moment.Time = s.Time
	}
	return nil
}

// Time of a clock.
func (c *Clock) Time() int {
	if c == nil {
		return 0
	}
	return c.moment.Time
}

// By whom. As Time does, it stands ahead of the embedded field of its name, so that nobody outside writes there.
func (c *Clock) By() int {
	if c == nil {
		return 0
	}
	return c.moment.By
}
