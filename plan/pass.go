package plan

import (
	"slices"

	"catchment/api"
	"catchment/cut"
	"catchment/inner"
	"catchment/pour"
	"catchment/tree"
	"catchment/weld"
)

// root is the root's number.
const root = 1

// pass is a pass through a tree: how it is so far, how many of the fresh
// numbers were taken, and which numbers are free since.
type pass struct {
	t     api.Tree
	c     api.Config
	fresh []int
	taken int
	freed []int
}

// Pass is a pass through a tree.
func Pass(t api.Tree, c api.Config, fresh ...int) (api.Tree, int, []int, api.Errno) {
	if !tree.Sound(t) || !allFree(t, fresh) {
		return api.Tree{}, 0, nil, api.ErrArg
	}
	p := &pass{t: tree.Own(t), c: c, fresh: fresh}
	if err := p.run(); err != api.OK {
		return api.Tree{}, 0, nil, err
	}
	return p.t, p.taken, p.freed, api.OK
}

// allFree: is each number free, and none there twice?
func allFree(t api.Tree, fresh []int) bool {
	taken := map[int]int{root: 1}
	for i := range tree.All(t) {
		taken[i]++
	}
	for _, i := range fresh {
		if taken[i]++; taken[i] > 1 || i < root || i > api.MaxNodes {
			return false
		}
	}
	return true
}

// next is the next fresh numbers, as many as an action takes.
func (p *pass) next(a api.Action) ([]int, bool) {
	n := Fresh(a)
	if n > len(p.fresh)-p.taken {
		return nil, false
	}
	p.taken += n
	return p.fresh[p.taken-n : p.taken], true
}

func (p *pass) run() api.Errno {
	switch Root(p.t.Nodes[root], p.c) {
	case api.Grow:
		if err := p.grow(); err != api.OK {
			return err
		}
		fallthrough
	case api.Pour:
		return p.down()
	}
	return api.OK
}

// down goes down from the root, from hot kid to hot kid.
func (p *pass) down() api.Errno {
	i := root
node:
	for len(p.t.Nodes[i].Msgs) > 0 {
		span, _ := tree.Span(p.t, i)
		at, _ := inner.Hot(p.t.Nodes[i], span)
		kid, kids := p.t.Nodes[i].Kids[at], len(p.t.Nodes[i].Kids)
		if Kid(p.t.Nodes[kid], p.c) == api.Split {
			if err := p.split(i, at); err != api.OK {
				return err
			}
			continue node
		}
		t, _, err := pour.Pour(p.t, i, at, p.c)
		if err != api.OK {
			return err
		}
		p.t = t
		switch After(p.t.Nodes[kid], p.c, kids) {
		case api.Deeper:
			i = kid
			continue node
		case api.Mend:
			p.mend(i, at)
		}
		break node
	}
	return api.OK
}

func (p *pass) grow() api.Errno {
	fresh, ok := p.next(api.Grow)
	if !ok {
		return api.ErrFull
	}
	t, err := cut.Grow(p.t, fresh[0], fresh[1])
	if err == api.OK {
		p.t = t
	}
	return err
}

func (p *pass) split(i, at int) api.Errno {
	fresh, ok := p.next(api.Split)
	if !ok {
		return api.ErrFull
	}
	t, err := cut.Split(p.t, i, at, fresh[0])
	if err == api.OK {
		p.t = t
	}
	return err
}

// mend helps a kid that has too little, by its pair.
func (p *pass) mend(i, at int) {
	first, ok := Pair(at, len(p.t.Nodes[i].Kids))
	if !ok {
		return
	}
	if !weld.Fits(p.t, i, first, p.c) {
		if t, err := weld.Share(p.t, i, first); err == api.OK {
			p.t = t
		}
		return
	}
	t, gone, err := weld.Weld(p.t, i, first)
	if err != api.OK {
		return
	}
	p.t, p.freed = t, append(p.freed, gone)
	if i != root {
		return
	}
	// Sink says itself whether the root has just one kid now, which is an inner node.
	if t, gone, err = weld.Sink(p.t); err == api.OK {
		p.t, p.freed = t, append(p.freed, gone)
	}
}

// Passes is passes through a tree, as long as there is something to do.
func Passes(t api.Tree, c api.Config, most int) (api.Tree, int) {
	t = tree.Own(t)
	n := 0
	for n < most && due(t, c) {
		next, err := freshPass(t, c)
		if err != api.OK {
			break
		}
		if same(t, next) {
			// A pass that changes nothing is followed by such passes alone.
			n = most
			break
		}
		t = next
		n++
	}
	return t, n
}

// freshPass is a pass with the least free numbers, as many as it needs. Few are
// enough for most: it is tried with few first.
func freshPass(t api.Tree, c api.Config) (api.Tree, api.Errno) {
	fresh := allFresh(t)
	for n := 8; ; n *= 2 {
		made, _, _, err := Pass(t, c, fresh[:min(n, len(fresh))]...)
		if err != api.ErrFull || n >= len(fresh) {
			return made, err
		}
	}
}

// due: is there something to do at the root?
func due(t api.Tree, c api.Config) bool {
	if len(t.Nodes) <= root {
		return false
	}
	switch top := t.Nodes[root]; Root(top, c) {
	case api.Grow:
		return true
	case api.Pour:
		return len(top.Msgs) > 0
	}
	return false
}

// allFresh is all free numbers, rising.
func allFresh(t api.Tree) []int {
	n := api.MaxNodes - root
	for i := range tree.All(t) {
		if i > root && i <= api.MaxNodes {
			n--
		}
	}
	fresh, _ := cut.Fresh(t, n)
	return fresh
}

// same: are two trees the same, node by node?
func same(a, b api.Tree) bool {
	return slices.EqualFunc(a.Nodes, b.Nodes, func(x, y api.Node) bool {
		return x.Kind == y.Kind && slices.Equal(x.Pivots, y.Pivots) && slices.Equal(x.Kids, y.Kids) && slices.Equal(x.Msgs, y.Msgs) &&
			slices.EqualFunc(x.Blocks, y.Blocks, slices.Equal[[]api.Entry])
	})
}
