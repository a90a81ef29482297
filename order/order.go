// Package order is layer 1: see shared/doc/01-order.md.
package order

import (
	"cmp"
	"iter"
)

// Map is a map whose keys are in order.
type Map[K cmp.Ordered, V any] struct {
	root *node[K, V]
}

// New is a map without keys.
func New[K cmp.Ordered, V any]() *Map[K, V] { return &Map[K, V]{} }

// Put: a key has a value.
func (m *Map[K, V]) Put(k K, v V) bool {
	if m == nil {
		return false
	}
	below, at, above := split(m.root, k)
	m.root = link(below, k, v, above)
	return at == nil
}

// Get is a key's value.
func (m *Map[K, V]) Get(k K) (V, bool) {
	var none V
	if m == nil {
		return none, false
	}
	for n := m.root; n != nil; {
		switch c := cmp.Compare(k, n.key); {
		case c < 0:
			n = n.left
		case c > 0:
			n = n.right
		default:
			return n.val, true
		}
	}
	return none, false
}

// Drop: a key is there no more.
func (m *Map[K, V]) Drop(k K) bool {
	if m == nil {
		return false
	}
	below, at, above := split(m.root, k)
	if at == nil {
		return false
	}
	m.root = concat(below, above)
	return true
}

// Cut: keys are there no more.
func (m *Map[K, V]) Cut(from, to K) int {
	if m == nil || cmp.Compare(from, to) >= 0 {
		return 0
	}
	ahead := m.root.size()
	below, _, rest := split(m.root, from)
	_, end, above := split(rest, to)
	if end != nil {
		above = link(nil, end.key, end.val, above)
	}
	m.root = concat(below, above)
	return ahead - m.root.size()
}

// Len is how many keys there are.
func (m *Map[K, V]) Len() int {
	if m == nil {
		return 0
	}
	return m.root.size()
}

// Place is how many keys are below one.
func (m *Map[K, V]) Place(k K) int {
	if m == nil {
		return 0
	}
	below := 0
	for n := m.root; n != nil; {
		if cmp.Compare(n.key, k) < 0 {
			below += n.left.size() + 1
			n = n.right
		} else {
			n = n.left
		}
	}
	return below
}

// At is the key that has so many below it.
func (m *Map[K, V]) At(i int) (K, V, bool) {
	var k K
	var v V
	if m == nil || i < 0 || i >= m.root.size() {
		return k, v, false
	}
	n := m.root
	for i != n.left.size() {
		if i < n.left.size() {
			n = n.left
		} else {
			i -= n.left.size() + 1
			n = n.right
		}
	}
	return n.key, n.val, true
}

// All is all keys, with their values.
func (m *Map[K, V]) All() iter.Seq2[K, V] {
	if m == nil {
		return pairs[K, V](nil, nil)
	}
	return pairs(nil, m.root)
}

// From is all keys that are not below one, with their values.
func (m *Map[K, V]) From(k K) iter.Seq2[K, V] {
	if m == nil {
		return pairs[K, V](nil, nil)
	}
	_, at, above := split(m.root, k)
	return pairs(at, above)
}

// Fork is a map by itself. It shares the nodes, which no call changes.
func (m *Map[K, V]) Fork() *Map[K, V] {
	if m == nil {
		return nil
	}
	return &Map[K, V]{root: m.root}
}

// pairs tells one node by itself (if there is one), and then all below another one.
func pairs[K cmp.Ordered, V any](first, rest *node[K, V]) iter.Seq2[K, V] {
	return func(yield func(K, V) bool) {
		if first != nil && !yield(first.key, first.val) {
			return
		}
		for n := range rest.nodes() {
			if !yield(n.key, n.val) {
				return
			}
		}
	}
}
