package replica

import (
	"cmp"
	"slices"

	"concordat/api"
	"concordat/line"
	"concordat/op"
	"concordat/stamp"
)

// Join operations.
func (r *Replica) Join(l []api.Op) (int, error) {
	fresh, err := r.known.sift(l)
	if err != nil {
		return 0, err
	}
	all, err := r.known.with(fresh)
	if err != nil {
		return 0, err
	}
	if !all.bearsAll(fresh) {
		return 0, api.ErrNone
	}
	if all.count() > api.MaxOps {
		return 0, api.ErrFull
	}
	r.known = all
	for _, o := range op.Sort(fresh) {
		r.apply(o)
	}
	return len(fresh), nil
}

// numbered: whose operation it is, and which.
type numbered struct{ by, n int }

// sift those that are not known, each once.
func (k known) sift(l []api.Op) ([]api.Op, error) {
	var fresh []api.Op
	ahead := map[numbered]api.Op{}
	for i, o := range l {
		if err := op.Check(o); err != nil {
			return nil, &api.Fault{At: i, Err: err}
		}
		at := numbered{by: o.S.By, n: o.N}
		same, is := k.number(at.by, at.n)
		if !is {
			same, is = ahead[at]
		}
		if !is {
			ahead[at] = o
			fresh = append(fresh, o)
		} else if same != o {
			return nil, &api.Fault{At: i, Err: api.ErrExist}
		}
	}
	return fresh, nil
}

// with those that are new, if their numbers go on without a gap, and then if their stamps rise. What is known already stays: it ends where the new ones are written.
func (k known) with(fresh []api.Op) (known, error) {
	byNumber := slices.SortedFunc(slices.Values(fresh), func(a, b api.Op) int { return cmp.Compare(a.N, b.N) })
	rises := true
	for _, o := range byNumber {
		l := k[o.S.By]
		if o.N != len(l)+1 {
			return known{}, api.ErrGap
		}
		if len(l) > 0 && !stamp.Less(l[len(l)-1].S, o.S) {
			rises = false
		}
		k[o.S.By] = append(l, o)
	}
	if !rises {
		return known{}, api.ErrShape
	}
	return k, nil
}

func (k known) bearsAll(fresh []api.Op) bool {
	return !slices.ContainsFunc(fresh, func(o api.Op) bool { return !k.bears(o) })
}

// apply an operation. What it makes has no error: Join has looked at all of that.
func (r *Replica) apply(o api.Op) {
	r.hear(o.S)
	switch o.Kind {
	case api.Move:
		if o.Node == op.ID(o) {
			r.texts[o.Node] = line.New()
		}
		r.tree.Apply(o)
	case api.Insert:
		r.texts[o.Node].Insert(op.ID(o), o.Other, o.Value[0])
	case api.Delete:
		r.texts[o.Node].Delete(o.Other)
	case api.Set:
		r.cells.Set(o)
	}
}
