package image

import (
	"catchment/api"
	"catchment/block"
	"catchment/word"
)

// reader reads a tree's bytes from the left, and gives up by panic with an
// error's number: what is wrong first ends it, however deep it is.
type reader struct{ left string }

// Read is the tree that bytes are.
func Read(s string) (t api.Tree, err api.Errno) {
	defer func() {
		switch x := recover().(type) {
		case nil:
		case api.Errno:
			t, err = api.Tree{}, x
		default:
			panic(x)
		}
	}()
	r := &reader{left: s}
	nodes := r.num()
	r.check(nodes <= mostNodes, api.ErrLimit)
	for i := range nodes {
		t.Nodes = append(t.Nodes, r.node(i))
	}
	r.check(r.left == "", api.ErrForm)
	return t, api.OK
}

func (r *reader) check(ok bool, err api.Errno) {
	if !ok {
		panic(err)
	}
}

func (r *reader) num() int {
	n, left, err := word.TakeNum(r.left)
	r.check(err == api.OK, err)
	r.left = left
	return n
}

func (r *reader) text(most int) string {
	s, left, err := word.TakeText(r.left, most)
	r.check(err == api.OK, err)
	r.left = left
	return s
}

// bytes is so many bytes.
func (r *reader) bytes(n int) string {
	r.check(len(r.left) >= n, api.ErrEnd)
	s := r.left[:n]
	r.left = r.left[n:]
	return s
}

func (r *reader) node(i int) api.Node {
	n := api.Node{Kind: api.NodeKind(r.bytes(1)[0])}
	r.check(n.Kind <= api.Inner && (i > 0 || n.Kind == api.NoNode), api.ErrForm)
	switch n.Kind {
	case api.Leaf:
		for many := r.num(); many > 0; many-- {
			n.Blocks = append(n.Blocks, r.block())
		}
	case api.Inner:
		r.inner(&n)
	}
	return n
}

func (r *reader) block() []api.Entry {
	e, err := block.Unpack(r.text(api.MaxNum))
	r.check(err == api.OK, err)
	// Each rest of a key was short enough; a key that is put together may not be.
	r.check(none(e, func(x api.Entry) bool { return len(x.Key) > api.MaxKey }), api.ErrLimit)
	return e
}

func (r *reader) inner(n *api.Node) {
	kids := r.num()
	r.check(kids > 0, api.ErrForm)
	for range kids {
		n.Kids = append(n.Kids, r.num())
	}
	for range kids - 1 {
		n.Pivots = append(n.Pivots, r.text(mostText))
	}
	for many := r.num(); many > 0; many-- {
		n.Msgs = append(n.Msgs, r.msg())
	}
}

func (r *reader) msg() api.Msg {
	m := api.Msg{Kind: api.Kind(r.bytes(1)[0])}
	r.check(m.Kind != api.NoKind && m.Kind <= api.Clear, api.ErrForm)
	m.Seq, m.Key = r.num(), r.text(mostText)
	switch m.Kind {
	case api.Put:
		m.Value = r.text(api.MaxValue)
	case api.Add:
		m.Delta, _ = word.Take(r.bytes(8))
	case api.Clear:
		m.To = r.text(mostText)
	}
	return m
}
