// Package given holds tests of what is given whole: packages api and plain, whose folders stay as they are.
package given

import (
	"errors"
	"testing"

	"concordat/api"
	"concordat/plain"
)

// P5.
func TestConstants(t *testing.T) {
	for _, c := range []struct {
		name      string
		got, want int
	}{
		{"Replicas", api.Replicas, 4}, {"MaxTime", api.MaxTime, 1073741824}, {"MaxOps", api.MaxOps, 400},
		{"MaxName", api.MaxName, 12}, {"MaxBytes", api.MaxBytes, 65536}, {"MaxFlying", api.MaxFlying, 30},
		{"MaxSteps", api.MaxSteps, 3000}, {"MaxLines", api.MaxLines, 100}, {"Workers", api.Workers, 16},
		{"Root", api.Root, 0}, {"Trash", api.Trash, 1},
		{"Move", api.Move, 'm'}, {"Insert", api.Insert, 'i'}, {"Delete", api.Delete, 'd'}, {"Set", api.Set, 's'},
	} {
		if c.got != c.want {
			t.Errorf("%s is %d, not %d", c.name, c.got, c.want)
		}
	}
}

// P5: texts of the errors, and the numbers by which plain tells them, bare and with a place.
func TestErrors(t *testing.T) {
	for i, c := range []struct {
		err  error
		text string
	}{
		{api.ErrText, "concordat: text"}, {api.ErrBound, "concordat: bound"}, {api.ErrShape, "concordat: shape"},
		{api.ErrName, "concordat: name"}, {api.ErrKind, "concordat: kind"}, {api.ErrNone, "concordat: none"},
		{api.ErrExist, "concordat: exist"}, {api.ErrFull, "concordat: full"}, {api.ErrGap, "concordat: gap"},
		{api.ErrCycle, "concordat: cycle"}, {api.ErrOff, "concordat: off"}, {api.ErrSum, "concordat: sum"},
	} {
		if c.err.Error() != c.text {
			t.Errorf("%q is not %q", c.err, c.text)
		}
		if code, at := plain.Code(c.err); code != i+1 || at != -1 {
			t.Errorf("%s: code %d at %d", c.text, code, at)
		}
		fault := &api.Fault{At: 7, Err: c.err}
		if code, at := plain.Code(fault); code != i+1 || at != 7 {
			t.Errorf("%s at 7: code %d at %d", c.text, code, at)
		}
		if fault.Error() != c.text || !errors.Is(fault, c.err) {
			t.Errorf("a fault of %s tells %q", c.text, fault)
		}
	}
}

func TestCodeOfOtherErrors(t *testing.T) {
	if code, at := plain.Code(nil); code != 0 || at != -1 {
		t.Errorf("nil: code %d at %d", code, at)
	}
	other := errors.New("concordat: text")
	if code, at := plain.Code(other); code != -1 || at != -1 {
		t.Errorf("another one: code %d at %d", code, at)
	}
	if code, at := plain.Code(&api.Fault{At: 3, Err: other}); code != -1 || at != 3 {
		t.Errorf("another one at 3: code %d at %d", code, at)
	}
}
