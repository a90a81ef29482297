package order

import (
	"cmp"
	"iter"
)

// node is a node of a search tree that is balanced by weight. None is changed
// once it is made: maps that were forked can share them.
type node[K cmp.Ordered, V any] struct {
	key         K
	val         V
	many        int
	left, right *node[K, V]
}

// Neither side of a node has more than heavy times the weight of the other
// one; a side whose inner part has turn times the weight of its outer part is
// turned twice. These two numbers are known to go together.
const (
	heavy = 3
	turn  = 2
)

func (n *node[K, V]) size() int {
	if n == nil {
		return 0
	}
	return n.many
}

func (n *node[K, V]) weight() int { return n.size() + 1 }

// nodes is all nodes from n down, in the order of their keys.
func (n *node[K, V]) nodes() iter.Seq[*node[K, V]] {
	return func(yield func(*node[K, V]) bool) { n.walk(yield) }
}

func (n *node[K, V]) walk(yield func(*node[K, V]) bool) bool {
	return n == nil || n.left.walk(yield) && yield(n) && n.right.walk(yield)
}

func join[K cmp.Ordered, V any](l *node[K, V], k K, v V, r *node[K, V]) *node[K, V] {
	return &node[K, V]{key: k, val: v, many: l.size() + 1 + r.size(), left: l, right: r}
}

// link is a balanced tree of l, a key above it, and r above that.
func link[K cmp.Ordered, V any](l *node[K, V], k K, v V, r *node[K, V]) *node[K, V] {
	switch {
	case l.weight() > heavy*r.weight():
		return settle(l.left, l.key, l.val, link(l.right, k, v, r))
	case r.weight() > heavy*l.weight():
		return settle(link(l, k, v, r.left), r.key, r.val, r.right)
	}
	return join(l, k, v, r)
}

// settle is join, of sides of which one may be a little too heavy.
func settle[K cmp.Ordered, V any](l *node[K, V], k K, v V, r *node[K, V]) *node[K, V] {
	switch {
	case l.weight() > heavy*r.weight():
		if in := l.right; in.weight() >= turn*l.left.weight() {
			return join(join(l.left, l.key, l.val, in.left), in.key, in.val, join(in.right, k, v, r))
		}
		return join(l.left, l.key, l.val, join(l.right, k, v, r))
	case r.weight() > heavy*l.weight():
		if in := r.left; in.weight() >= turn*r.right.weight() {
			return join(join(l, k, v, in.left), in.key, in.val, join(in.right, r.key, r.val, r.right))
		}
		return join(join(l, k, v, r.left), r.key, r.val, r.right)
	}
	return join(l, k, v, r)
}

// split is what is below k, the node of k itself (or nil), and what is above.
func split[K cmp.Ordered, V any](n *node[K, V], k K) (below, at, above *node[K, V]) {
	if n == nil {
		return nil, nil, nil
	}
	switch c := cmp.Compare(k, n.key); {
	case c < 0:
		l, at, r := split(n.left, k)
		return l, at, link(r, n.key, n.val, n.right)
	case c > 0:
		l, at, r := split(n.right, k)
		return link(n.left, n.key, n.val, l), at, r
	}
	return n.left, n, n.right
}

// concat is one tree of two, the second one's keys above the first one's.
func concat[K cmp.Ordered, V any](l, r *node[K, V]) *node[K, V] {
	if r == nil {
		return l
	}
	first, rest := takeFirst(r)
	return link(l, first.key, first.val, rest)
}

func takeFirst[K cmp.Ordered, V any](n *node[K, V]) (*node[K, V], *node[K, V]) {
	if n.left == nil {
		return n, n.right
	}
	first, rest := takeFirst(n.left)
	return first, link(rest, n.key, n.val, n.right)
}
