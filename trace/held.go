package trace

import (
	"catchment/api"
)

// root is the root's number.
const root = 1

// holds is who holds what: of each node its session, and of each session its
// nodes in the order in which it took them.
type holds struct {
	owner map[int]int
	taken map[int][]int
}

// Held is who holds what behind moves, and the first one that can't be.
func Held(l []api.Move) (map[int]int, int) {
	h := &holds{owner: map[int]int{}, taken: map[int][]int{}}
moves:
	for i, m := range l {
		switch m.What {
		case api.Held:
			if _, held := h.owner[m.Node]; held {
				return h.owner, i + 1
			}
			h.owner[m.Node] = m.Session
			h.taken[m.Session] = append(h.taken[m.Session], m.Node)
			continue moves
		case api.Freed, api.Bumped, api.Welded, api.Sunk, api.Poured, api.Cut, api.Shared, api.Grown, api.Sent:
			if owner, held := h.owner[m.Node]; !held || owner != m.Session {
				return h.owner, i + 1
			}
		default:
			continue moves
		}
		h.give(m)
	}
	return h.owner, 0
}

// give gives back what a move of who holds its node gives back.
func (h *holds) give(m api.Move) {
	switch m.What {
	case api.Freed, api.Bumped:
		h.lose(m.Session, func(node int) bool { return node == m.Node })
	case api.Welded:
		own := h.taken[m.Session]
		for i := len(own) - 1; i > 0; i-- {
			if gone := own[i]; gone != m.Node {
				h.lose(m.Session, func(node int) bool { return node == gone })
				return
			}
		}
	case api.Sunk:
		h.lose(m.Session, func(node int) bool { return node != root })
	}
}

// lose takes those nodes from a session of which something is so.
func (h *holds) lose(who int, is func(int) bool) {
	var kept []int
	for _, node := range h.taken[who] {
		if is(node) {
			delete(h.owner, node)
		} else {
			kept = append(kept, node)
		}
	}
	h.taken[who] = kept
	if len(kept) == 0 {
		delete(h.taken, who)
	}
}
