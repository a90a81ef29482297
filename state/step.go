package state

import (
	"math"
	"slices"

	"catchment/api"
	"catchment/cut"
	"catchment/inner"
	"catchment/leaf"
	"catchment/pour"
	"catchment/room"
	"catchment/tree"
	"catchment/vlock"
	"catchment/weld"
)

// adopt takes nodes of a tree that a step has made, and says that they are changed.
func (s *State) adopt(t api.Tree, changed ...int) {
	for _, i := range changed {
		s.nodes.Set(i, t.Nodes[i])
		s.changed[i]++
	}
}

// adoptFresh takes nodes of new numbers: nobody holds them.
func (s *State) adoptFresh(t api.Tree, fresh ...int) {
	for _, i := range fresh {
		s.nodes.Set(i, t.Nodes[i])
	}
}

// sketch is the tree with the messages and entries of one node and of its kids
// alone: a step at that node asks for no others, and need not go through them.
func (s *State) sketch(i int) api.Tree {
	t := s.shared()
	n, _ := s.nodes.Get(i)
	for j := range t.Nodes {
		if j != i && !slices.Contains(n.Kids, j) {
			t.Nodes[j].Msgs, t.Nodes[j].Blocks = nil, nil
		}
	}
	return t
}

// take takes numbers, each of which has a word then.
func (s *State) take(n int) ([]int, api.Errno) {
	taken, err := s.nodes.Many(n, api.Node{})
	if err != api.OK {
		return nil, err
	}
	for _, i := range taken {
		if i >= len(s.words) {
			s.words = append(s.words, api.Lock{})
		} else if l, err := vlock.Renew(s.words[i]); err == api.OK {
			// A number that was never taken has a new word already: that is not Gone.
			s.words[i] = l
		}
	}
	return taken, api.OK
}

// retire: a node that a session holds is reached no more.
func (s *State) retire(i, who int) {
	if l, err := vlock.Retire(s.words[i], who); err == api.OK {
		s.words[i] = l
	}
	s.nodes.Set(i, api.Node{})
	delete(s.changed, i)
	s.book.Retire(i)
}

// kids is so many kids of an inner node that is reached, from a place on.
func kids(t api.Tree, i, at, many int) ([]int, bool) {
	if _, ok := tree.Span(t, i); !ok || t.Nodes[i].Kind != api.Inner {
		return nil, false
	}
	k := t.Nodes[i].Kids
	if at < 0 || at > len(k)-many {
		return nil, false
	}
	return k[at : at+many : at+many], true
}

// Send: messages come into the root.
func (s *State) Send(who int, l []api.Msg) (int, api.Errno) {
	if s == nil {
		return 0, api.ErrNil
	}
	if !s.holds(who, root) {
		return 0, api.ErrOwner
	}
	if err := room.Ask(api.Op{Kind: api.Send, Batch: l}, s.c); err != api.OK {
		return 0, err
	}
	if s.seq > math.MaxInt-len(l) {
		return 0, api.ErrLimit
	}
	sent := append([]api.Msg(nil), l...)
	for i := range sent {
		s.seq++
		sent[i].Seq = s.seq
	}
	top, _ := s.nodes.Get(root)
	s.nodes.Set(root, inner.Add(top, sent...))
	s.changed[root]++
	s.stamp++
	return s.stamp, api.OK
}

// Grow makes the tree one level higher.
func (s *State) Grow(who int) (int, int, api.Errno) {
	if s == nil {
		return 0, 0, api.ErrNil
	}
	if !s.holds(who, root) {
		return 0, 0, api.ErrOwner
	}
	if top, _ := s.nodes.Get(root); len(top.Kids) < 2 {
		return 0, 0, api.ErrState
	}
	fresh, err := s.take(2)
	if err != api.OK {
		return 0, 0, err
	}
	t, err := cut.Grow(s.sketch(root), fresh[0], fresh[1])
	if err != api.OK {
		return 0, 0, err
	}
	s.adopt(t, root)
	s.adoptFresh(t, fresh...)
	return fresh[0], fresh[1], api.OK
}

// Split makes two nodes of a kid.
func (s *State) Split(who, i, at int) (int, api.Errno) {
	if s == nil {
		return 0, api.ErrNil
	}
	t := s.sketch(i)
	kid, ok := kids(t, i, at, 1)
	if !ok {
		return 0, api.ErrArg
	}
	if !s.holds(who, i, kid[0]) {
		return 0, api.ErrOwner
	}
	if n := t.Nodes[kid[0]]; len(n.Kids)+leaf.Count(n.Blocks) < 2 {
		return 0, api.ErrState
	}
	fresh, err := s.take(1)
	if err != api.OK {
		return 0, err
	}
	t, err = cut.Split(s.sketch(i), i, at, fresh[0])
	if err != api.OK {
		return 0, err
	}
	s.adopt(t, i, kid[0])
	s.adoptFresh(t, fresh...)
	return fresh[0], api.OK
}

// Pour: messages go down.
func (s *State) Pour(who, i, at int) (int, api.Errno) {
	if s == nil {
		return 0, api.ErrNil
	}
	t := s.sketch(i)
	kid, ok := kids(t, i, at, 1)
	if !ok {
		return 0, api.ErrArg
	}
	if !s.holds(who, i, kid[0]) {
		return 0, api.ErrOwner
	}
	t, n, err := pour.Pour(t, i, at, s.c)
	if err != api.OK || n == 0 {
		return 0, err
	}
	s.adopt(t, i, kid[0])
	return n, api.OK
}

// pair is the numbers of a pair that a session holds, with the node whose kids they are.
func (s *State) pair(t api.Tree, who, i, at int) ([]int, api.Errno) {
	pair, ok := kids(t, i, at, 2)
	if !ok {
		return nil, api.ErrArg
	}
	if !s.holds(who, i, pair[0], pair[1]) {
		return nil, api.ErrOwner
	}
	return pair, api.OK
}

// Weld makes one node of a pair.
func (s *State) Weld(who, i, at int) (int, api.Errno) {
	if s == nil {
		return 0, api.ErrNil
	}
	t := s.sketch(i)
	pair, err := s.pair(t, who, i, at)
	if err != api.OK {
		return 0, err
	}
	t, gone, err := weld.Weld(t, i, at)
	if err != api.OK {
		return 0, err
	}
	s.adopt(t, i, pair[0])
	s.retire(gone, who)
	return gone, api.OK
}

// Share makes a pair alike.
func (s *State) Share(who, i, at int) api.Errno {
	if s == nil {
		return api.ErrNil
	}
	t := s.sketch(i)
	pair, err := s.pair(t, who, i, at)
	if err != api.OK {
		return err
	}
	t, err = weld.Share(t, i, at)
	if err != api.OK {
		return err
	}
	s.adopt(t, i, pair[0], pair[1])
	return api.OK
}

// Sink makes the tree one level lower.
func (s *State) Sink(who int) (int, api.Errno) {
	if s == nil {
		return 0, api.ErrNil
	}
	if !s.holds(who, root) {
		return 0, api.ErrOwner
	}
	t := s.sketch(root)
	only := t.Nodes[root].Kids
	if len(only) != 1 || t.Nodes[only[0]].Kind != api.Inner {
		return 0, api.ErrState
	}
	if !s.holds(who, only[0]) {
		return 0, api.ErrOwner
	}
	t, gone, err := weld.Sink(t)
	if err != api.OK {
		return 0, err
	}
	s.adopt(t, root)
	s.retire(gone, who)
	return gone, api.OK
}
