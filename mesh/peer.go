package mesh

import (
	"concordat/api"
	"concordat/journal"
	"concordat/replica"
)

// peer of a mesh: a replica, and the disk that keeps what it knows.
type peer struct {
	*replica.Replica
	disk *journal.Disk
}

func newPeer(by int) (*peer, error) {
	r, err := replica.New(by)
	if err != nil {
		return nil, err
	}
	d, err := journal.NewDisk("")
	if err != nil {
		return nil, err
	}
	return &peer{Replica: r, disk: d}, nil
}

// next operation that the replica would make, of what one asks for: its Kind says which, its Other where a letter is.
func (p *peer) next(o api.Op) (api.Op, error) {
	switch o.Kind {
	case api.Move:
		if o.Node == api.Root { // which never moves, and so stands for a new node
			return p.Make(o.Other, o.Name)
		}
		return p.Move(o.Node, o.Other, o.Name)
	case api.Insert:
		return p.Write(o.Node, o.Other, firstByte(o.Value))
	case api.Delete:
		return p.Erase(o.Node, o.Other)
	case api.Set:
		return p.Mark(o.Node, o.Name, o.Value)
	}
	return api.Op{}, api.ErrKind
}

// firstByte of a text; of an empty one 0, which no letter is.
func firstByte(s string) byte {
	if s == "" {
		return 0
	}
	return s[0]
}

// do an operation. The disk comes first: what nobody would know any more behind a cut is never told to others.
func (p *peer) do(o api.Op) (api.Op, error) {
	made, err := p.next(o)
	if err != nil {
		return api.Op{}, err
	}
	if err := journal.Append(p.disk, made); err != nil {
		return api.Op{}, err
	}
	if _, err := p.Join([]api.Op{made}); err != nil {
		return api.Op{}, err
	}
	return made, nil
}

// learn operations of others. What is not kept may be asked for again: so it is joined all the same.
func (p *peer) learn(l []api.Op) error {
	had := p.Vector()
	if _, err := p.Join(l); err != nil {
		return err
	}
	for _, o := range p.Diff(had) {
		if err := journal.Append(p.disk, o); err != nil {
			return err
		}
	}
	return nil
}

// boot anew: nothing but what the disk kept is known.
func (p *peer) boot() error {
	r, err := replica.New(p.By())
	if err != nil {
		return err
	}
	p.Replica = r
	l, err := journal.Recover(p.disk)
	if err != nil {
		return err
	}
	_, err = p.Join(l)
	return err
}
