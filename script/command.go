package script

import (
	"maps"
	"strconv"

	"concordat/api"
	"concordat/op"
	"concordat/replica"
)

// command: of which form what is said must be, and what is done then.
type command struct {
	form string
	do   func(s said) (string, error)
}

// commands of a player, by their names.
func (p *player) commands() map[string]command {
	all := p.changes()
	maps.Copy(all, p.passages())
	maps.Copy(all, p.looks())
	return all
}

// changes: commands that make an operation.
func (p *player) changes() map[string]command {
	return map[string]command{
		"make": p.change("DNW", func(s said) api.Op {
			return api.Op{Kind: api.Move, Other: s.numbers[0], Name: s.words[0]}
		}),
		"move": notOfRoot(p.change("DNNW", func(s said) api.Op {
			return api.Op{Kind: api.Move, Node: s.numbers[0], Other: s.numbers[1], Name: s.words[0]}
		})),
		"write": p.change("DNNL", func(s said) api.Op {
			return api.Op{Kind: api.Insert, Node: s.numbers[0], Other: s.numbers[1], Value: s.words[0]}
		}),
		"erase": p.change("DNN", func(s said) api.Op {
			return api.Op{Kind: api.Delete, Node: s.numbers[0], Other: s.numbers[1]}
		}),
		"mark": p.change("DNWW", func(s said) api.Op {
			return api.Op{Kind: api.Set, Node: s.numbers[0], Name: s.words[0], Value: s.words[1]}
		}),
	}
}

// passages: commands about what flies, and about power.
func (p *player) passages() map[string]command {
	return map[string]command{
		"ask":   passage("DD", func(s said) error { return p.Ask(s.replicas[0], s.replicas[1]) }),
		"go":    passage("N", func(s said) error { return p.Deliver(s.numbers[0]) }),
		"drop":  passage("N", func(s said) error { return p.Drop(s.numbers[0]) }),
		"twice": passage("N", func(s said) error { return p.Twice(s.numbers[0]) }),
		"cut":   passage("DN", func(s said) error { return p.Cut(s.replicas[0], s.numbers[0]) }),
		"boot":  passage("D", func(s said) error { return p.Boot(s.replicas[0]) }),
		"calm":  {"", func(said) (string, error) { return yesOrNo(p.Calm()), nil }},
		"fly":   {"", func(said) (string, error) { return strconv.Itoa(len(p.Flying())), nil }},
	}
}

// looks: commands that look at a replica.
func (p *player) looks() map[string]command {
	return map[string]command{
		"state":  p.look("D", func(r *replica.Replica, _ said) string { return stateOf(r) }),
		"list":   p.look("DN", func(r *replica.Replica, s said) string { return listOf(r, s.numbers[0]) }),
		"find":   p.look("DP", func(r *replica.Replica, s said) string { return found(r, s.words[0]) }),
		"path":   p.look("DN", func(r *replica.Replica, s said) string { return pathOf(r, s.numbers[0]) }),
		"vector": p.look("D", func(r *replica.Replica, _ said) string { return r.Vector().Text() }),
	}
}

// change by an operation: what Do is asked for, of what is said. The operation's id is told.
func (p *player) change(form string, wish func(s said) api.Op) command {
	return command{form, func(s said) (string, error) {
		made, err := p.Do(s.replicas[0], wish(s))
		if err != nil {
			return "", err
		}
		return strconv.Itoa(op.ID(made)), nil
	}}
}

// notOfRoot: for Do takes a move of Root for a new node, and here that has a command of its own; Root is no node that moves.
func notOfRoot(c command) command {
	return command{c.form, func(s said) (string, error) {
		if s.numbers[0] == api.Root {
			return "", api.ErrNone
		}
		return c.do(s)
	}}
}

// passage: of which nothing is told but that it is done.
func passage(form string, pass func(s said) error) command {
	return command{form, func(s said) (string, error) {
		if err := pass(s); err != nil {
			return "", err
		}
		return done, nil
	}}
}

// look at the replica that is named.
func (p *player) look(form string, tell func(r *replica.Replica, s said) string) command {
	return command{form, func(s said) (string, error) {
		r, err := p.Replica(s.replicas[0])
		if err != nil {
			return "", err
		}
		return tell(r, s), nil
	}}
}
