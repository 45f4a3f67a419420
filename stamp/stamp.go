// Package stamp: stamps: see ../shared/doc/01-stamp.md.
package stamp

import "concordat/api"

// Check a stamp.
func Check(s api.Stamp) error {
	if s.Time < 1 || s.Time > api.MaxTime || !isReplica(s.By) {
		return api.ErrBound
	}
	return nil
}

// Less: is a ahead of b?
func Less(a, b api.Stamp) bool {
	if a.Time != b.Time {
		return a.Time < b.Time
	}
	return a.By < b.By
}

// ID of a stamp.
func ID(s api.Stamp) (int, error) {
	if err := Check(s); err != nil {
		return 0, err
	}
	return s.Time*api.Replicas + s.By, nil
}

// Of an id: its stamp.
func Of(id int) (api.Stamp, error) {
	// An id below Replicas, or below 0, leaves a time below 1: Check refuses it.
	s := api.Stamp{Time: id / api.Replicas, By: id % api.Replicas}
	if err := Check(s); err != nil {
		return api.Stamp{}, err
	}
	return s, nil
}

func isReplica(by int) bool { return by >= 0 && by < api.Replicas }
