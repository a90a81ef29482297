// Package sample is trees for the tests of the layers: right ones (see
// shared/doc/16-shape.md), of any height, made of a source of numbers that the
// caller hands in.
package sample

import (
	"strconv"

	"catchment/api"
	"catchment/leaf"
)

// Keys is how many keys samples are made of: Key(0), Key(1), and so on, rising.
const Keys = 60

// perLevel is how many numbers of messages each level has for itself.
const perLevel = 1000

// Key is one of the keys that samples are made of.
func Key(i int) string { return string([]byte{byte('a' + i/10), byte('0' + i%10)}) }

// Sizes is small sizes for samples.
func Sizes() api.Config {
	return api.Config{Key: 8, Value: 16, Fanout: 4, Buffer: 60, Leaf: 6, Block: 3, Nodes: 200, Budget: 3, Chunk: 5}
}

// maker makes one tree.
type maker struct {
	below func(int) int
	block int
	nodes []api.Node
}

// Tree is a right tree of so many levels (two at least), whose leaves' blocks
// have at most so many entries. below(n) tells a number from 0 to n - 1.
func Tree(below func(int) int, levels, block int) api.Tree {
	m := &maker{below: below, block: block, nodes: make([]api.Node, 2)}
	m.fill(1, max(levels, 2)-1, 0, Keys)
	return api.Tree{Nodes: m.nodes}
}

// fresh is a number that no node has; now and then one is left out.
func (m *maker) fresh() int {
	if m.below(4) == 0 {
		m.nodes = append(m.nodes, api.Node{})
	}
	m.nodes = append(m.nodes, api.Node{})
	return len(m.nodes) - 1
}

// fill makes a node so many levels above the leaves, of the keys from one place up to another one.
func (m *maker) fill(id, level, from, to int) {
	if level == 0 {
		var e []api.Entry
		for i := from; i < to; i++ {
			if m.below(3) == 0 {
				e = append(e, api.Entry{Key: Key(i), Value: m.value()})
			}
		}
		m.nodes[id] = api.Node{Kind: api.Leaf, Blocks: leaf.Make(e, m.block)}
		return
	}
	n := api.Node{Kind: api.Inner, Msgs: m.msgs(level*perLevel, from, to)}
	for parts := 1 + m.below(4); parts > 0; parts-- {
		end := to
		if room := to - from; parts > 1 && room > 1 {
			end = from + 1 + m.below(room-1)
			n.Pivots = append(n.Pivots, Key(end))
		}
		kid := m.fresh()
		n.Kids = append(n.Kids, kid)
		m.fill(kid, level-1, from, end)
		if end == to {
			break
		}
		from = end
	}
	m.nodes[id] = n
}

// msgs is messages for the keys from one place up to another one: those of a
// level have higher numbers than those of all levels below.
func (m *maker) msgs(seq, from, to int) []api.Msg {
	var l []api.Msg
	for range m.below(5) {
		seq += 1 + m.below(3)
		at := from + m.below(to-from)
		x := api.Msg{Seq: seq, Key: Key(at)}
		switch m.below(5) {
		case 0, 1:
			x.Kind, x.Value = api.Put, m.value()
		case 2:
			x.Kind = api.Delete
		case 3:
			x.Kind, x.Delta = api.Add, uint64(m.below(9))
		case 4:
			if at+1 >= to {
				continue
			}
			x.Kind, x.To = api.Clear, Key(at+1+m.below(to-at-1))
		}
		l = append(l, x)
	}
	return l
}

func (m *maker) value() string {
	if m.below(3) == 0 {
		return string([]byte{0, 0, 0, 0, 0, 0, 0, byte(m.below(9))})
	}
	return strconv.Itoa(m.below(100))
}
