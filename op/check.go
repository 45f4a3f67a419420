package op

import (
	"concordat/api"
	"concordat/stamp"
)

// Check an operation.
func Check(o api.Op) error {
	id, err := stamp.ID(o.S)
	if err != nil {
		return err
	}
	if o.N < 1 || o.N > api.MaxOps {
		return api.ErrBound
	}
	switch o.Kind {
	case api.Move:
		return checkMove(o, id)
	case api.Insert:
		return checkInsert(o, id)
	case api.Delete:
		return checkDelete(o, id)
	case api.Set:
		return checkSet(o, id)
	}
	return api.ErrKind
}

func checkMove(o api.Op, id int) error {
	switch {
	// Its own id is a node too: one that it makes.
	case o.Node == api.Root, o.Node == api.Trash, !isEarlier(o.Node, id) && o.Node != id, !isEarlier(o.Other, id):
		return api.ErrShape
	case !IsName(o.Name):
		return api.ErrName
	case o.Value != "":
		return api.ErrShape
	}
	return nil
}

func checkInsert(o api.Op, id int) error {
	switch {
	case !isEarlier(o.Node, id), !isEarlier(o.Other, id):
		return api.ErrShape
	case o.Name != "":
		return api.ErrName
	case len(o.Value) != 1, !isPrintable(o.Value):
		return api.ErrShape
	}
	return nil
}

func checkDelete(o api.Op, id int) error {
	switch {
	case !isEarlier(o.Node, id), !isEarlier(o.Other, id), o.Other == 0:
		return api.ErrShape
	case o.Name != "":
		return api.ErrName
	case o.Value != "":
		return api.ErrShape
	}
	return nil
}

func checkSet(o api.Op, id int) error {
	switch {
	case !isEarlier(o.Node, id), o.Other != 0:
		return api.ErrShape
	case !IsName(o.Name):
		return api.ErrName
	case len(o.Value) > api.MaxName, !isPrintable(o.Value):
		return api.ErrShape
	}
	return nil
}

// isEarlier: may what has the number n have been there ahead of the operation of this id?
func isEarlier(n, id int) bool { return n >= 0 && n < id }

// IsName: may a node, or a mark, have this name?
func IsName(s string) bool {
	if len(s) < 1 || len(s) > api.MaxName {
		return false
	}
	for i := range len(s) {
		if !isNameByte(s[i]) {
			return false
		}
	}
	return true
}

func isNameByte(b byte) bool {
	return b >= 'a' && b <= 'z' || b >= '0' && b <= '9' || b == '-' || b == '.'
}

// isPrintable: an empty text is, too.
func isPrintable(s string) bool {
	for i := range len(s) {
		if s[i] < 32 || s[i] > 126 {
			return false
		}
	}
	return true
}
