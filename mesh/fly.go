package mesh

import (
	"slices"

	"concordat/api"
)

// Flying notes.
func (m *Mesh) Flying() []Note {
	notes := slices.Clone(m.flying)
	for i := range notes {
		notes[i].Ops = slices.Clone(notes[i].Ops)
	}
	return notes
}

// Ask another one.
func (m *Mesh) Ask(from, to int) error {
	p, err := m.peer(from)
	if err != nil {
		return err
	}
	if _, err := m.peer(to); err != nil {
		return err
	}
	if from == to {
		return api.ErrBound
	}
	return m.send(Note{From: from, To: to, Ask: true, Have: p.Vector()})
}

// Drop a note.
func (m *Mesh) Drop(at int) error {
	_, err := m.take(at)
	return err
}

// Twice a note.
func (m *Mesh) Twice(at int) error {
	if !m.flies(at) {
		return api.ErrNone
	}
	return m.send(m.flying[at])
}

// Deliver a note.
func (m *Mesh) Deliver(at int) error {
	note, err := m.take(at)
	if err != nil {
		return err
	}
	to := m.peers[note.To]
	if !note.Ask {
		return to.learn(note.Ops)
	}
	if l := to.Diff(note.Have); len(l) > 0 {
		// Where there is no room they are lost, which is no error of this one.
		m.send(Note{From: note.To, To: note.From, Ops: l})
	}
	return nil
}

// flies: is there a note of this number?
func (m *Mesh) flies(at int) bool { return at >= 0 && at < len(m.flying) }

// take a note out of those that fly.
func (m *Mesh) take(at int) (Note, error) {
	if !m.flies(at) {
		return Note{}, api.ErrNone
	}
	note := m.flying[at]
	m.flying = slices.Delete(m.flying, at, at+1)
	return note, nil
}

// send a note, behind all others.
func (m *Mesh) send(n Note) error {
	if len(m.flying) >= api.MaxFlying {
		return api.ErrFull
	}
	m.flying = append(m.flying, n)
	return nil
}

// askAll: each asks each other one.
func (m *Mesh) askAll() {
	for from := range m.peers {
		for to := range m.peers {
			if from != to {
				m.Ask(from, to)
			}
		}
	}
}
