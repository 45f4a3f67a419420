package journal

import "concordat/api"

// Disk of bytes that stay. A nil disk, which NewDisk answers beside its error, is one without power or bytes.
type Disk struct {
	bytes []byte
	off   bool
	waits bool // is there a Cut that is yet to come?
	left  int  // then: how many bytes are written ahead of it
}

// NewDisk with bytes.
func NewDisk(b string) (*Disk, error) {
	if len(b) > api.MaxBytes {
		return nil, api.ErrBound
	}
	return &Disk{bytes: []byte(b)}, nil
}

// Cut the power, some bytes later.
func (d *Disk) Cut(n int) error {
	if n < 0 {
		return api.ErrBound
	}
	if !d.Power() {
		return api.ErrOff
	}
	d.waits, d.left = true, n
	return nil
}

// On again.
func (d *Disk) On() {
	if d == nil {
		return
	}
	d.off, d.waits = false, false
}

// Power is there?
func (d *Disk) Power() bool { return d != nil && !d.off }

// Bytes there are.
func (d *Disk) Bytes() string {
	if d == nil {
		return ""
	}
	return string(d.bytes)
}

// write one byte, as far as there is power. Was it written?
func (d *Disk) write(b byte) bool {
	// Power goes ahead of the byte that is too many, not behind the last one: what just fits does not turn it off.
	if d.waits && d.left == 0 {
		d.off, d.waits = true, false
	}
	if d.off {
		return false
	}
	d.bytes = append(d.bytes, b)
	if d.waits {
		d.left--
	}
	return true
}
