package script

import (
	"strconv"
	"strings"

	"concordat/replica"
	"concordat/view"
)

const (
	done    = "ok"
	nothing = "nothing"
)

func yesOrNo(is bool) string {
	if is {
		return "yes"
	}
	return "no"
}

func orNothing(text string) string {
	if text == "" {
		return nothing
	}
	return text
}

func stateOf(r *replica.Replica) string {
	return orNothing(strings.ReplaceAll(r.State(), "\n", "; "))
}

func listOf(r *replica.Replica, in int) string {
	var l []string
	for _, e := range view.List(r, in) {
		l = append(l, e.Name+":"+strconv.Itoa(e.Node))
	}
	return orNothing(strings.Join(l, between))
}

func found(r *replica.Replica, path string) string {
	node, is := view.Find(r, path)
	if !is {
		return nothing
	}
	return strconv.Itoa(node)
}

func pathOf(r *replica.Replica, node int) string {
	path, is := view.Path(r, node)
	if !is {
		return nothing
	}
	return path
}
