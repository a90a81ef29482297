package shape_test

import (
	"math"
	"math/rand/v2"
	"reflect"
	"slices"
	"testing"

	"catchment/api"
	"catchment/fold"
	"catchment/sample"
	"catchment/shape"
	"catchment/tree"
)

var sizes = api.Config{Fanout: 4, Buffer: 40, Leaf: 8, Block: 2}

func put(seq int, k string) api.Msg { return api.Msg{Kind: api.Put, Seq: seq, Key: k} }

func leafOf(keys ...string) api.Node {
	n := api.Node{Kind: api.Leaf}
	for _, k := range keys {
		n.Blocks = append(n.Blocks, []api.Entry{{Key: k}})
	}
	return n
}

// three is a right tree: the root 1 with 2 and 3 parted by m; 2 with 4 and 5
// parted by d; 3 with 6.
func three() api.Tree {
	return api.Tree{Nodes: []api.Node{
		{},
		{Kind: api.Inner, Pivots: []string{"m"}, Kids: []int{2, 3}, Msgs: []api.Msg{put(8, "b"), {Kind: api.Clear, Seq: 9, Key: "e", To: "p"}}},
		{Kind: api.Inner, Pivots: []string{"d"}, Kids: []int{4, 5}, Msgs: []api.Msg{put(2, "b"), put(9, "a"), put(10, "b\x00")}},
		{Kind: api.Inner, Kids: []int{6}, Msgs: []api.Msg{put(3, "m"), put(20, "p")}},
		leafOf("a", "c"), leafOf("d", "e"), leafOf("z"),
	}}
}

// P16.1
func TestFaults(t *testing.T) {
	for i, x := range []struct {
		change func(n []api.Node) []api.Node
		want   []api.Fault
	}{
		{func(n []api.Node) []api.Node { return n }, nil},
		{func(n []api.Node) []api.Node { return nil }, []api.Fault{{Node: 1, Why: shape.Missing}}},
		{func(n []api.Node) []api.Node { n[1].Kind = api.Leaf; return n }, []api.Fault{{Node: 1, Why: shape.Missing}}},
		{func(n []api.Node) []api.Node { n[1].Kind = 7; return n }, []api.Fault{{Node: 1, Why: shape.Missing}}},
		{func(n []api.Node) []api.Node { n[5].Kind = 0; return n }, []api.Fault{{Node: 5, Why: shape.Missing}}},
		{func(n []api.Node) []api.Node { return n[:6] }, []api.Fault{{Node: 6, Why: shape.Missing}}},
		{func(n []api.Node) []api.Node { n[3].Kids[0] = -3; return n }, []api.Fault{{Node: -3, Why: shape.Missing}}},
		{func(n []api.Node) []api.Node { n[3].Kids[0] = math.MaxInt; return n }, []api.Fault{{Node: math.MaxInt, Why: shape.Missing}}},
		{func(n []api.Node) []api.Node { n[0] = leafOf(); n[3].Kids[0] = 0; return n }, []api.Fault{{Node: 0, Why: shape.Missing}}},
		{func(n []api.Node) []api.Node { n[2].Kids[0], n[3].Kids[0] = 99, 99; return n }, []api.Fault{{Node: 99, Why: shape.Missing}, {Node: 99, Why: shape.Missing}}},
		{func(n []api.Node) []api.Node { n[3].Kids[0] = 4; return n }, []api.Fault{{Node: 4, Why: shape.Twice}}},
		{func(n []api.Node) []api.Node { n[3].Kids[0] = 1; return n }, []api.Fault{{Node: 1, Why: shape.Twice}}},
		{func(n []api.Node) []api.Node { n[1].Kids[1] = 2; return n }, []api.Fault{{Node: 2, Why: shape.Twice}}},
		{func(n []api.Node) []api.Node { n[2].Pivots = nil; return n }, []api.Fault{{Node: 2, Why: shape.Parted}}},
		{func(n []api.Node) []api.Node { n[2].Pivots[0] = "m"; n[4].Kind = 0; return n }, []api.Fault{{Node: 2, Why: shape.Parted}}},
		{func(n []api.Node) []api.Node { n[3].Kids = nil; n[3].Msgs[0].Kind = 0; return n }, []api.Fault{{Node: 3, Why: shape.Parted}}},
		{func(n []api.Node) []api.Node { n[2].Msgs[0].Kind = 0; n[4].Kind = 0; return n }, []api.Fault{{Node: 2, Why: shape.Misread}, {Node: 4, Why: shape.Missing}}},
		{func(n []api.Node) []api.Node { n[2].Msgs[0].Seq = 99; return n }, []api.Fault{{Node: 2, Why: shape.Misread}}},
		{func(n []api.Node) []api.Node { n[2].Msgs[0].Key = "m"; return n }, []api.Fault{{Node: 2, Why: shape.Misread}}},
		{func(n []api.Node) []api.Node { n[4].Msgs = []api.Msg{put(1, "a")}; return n }, []api.Fault{{Node: 4, Why: shape.Misread}}},
		{func(n []api.Node) []api.Node { n[4].Pivots = []string{"a"}; return n }, []api.Fault{{Node: 4, Why: shape.Misread}}},
		{func(n []api.Node) []api.Node { n[4].Kids = []int{5}; n[4].Blocks = leafOf("z").Blocks; return n }, []api.Fault{{Node: 4, Why: shape.Misread}}},
		{func(n []api.Node) []api.Node { n[4].Blocks = leafOf("d").Blocks; return n }, []api.Fault{{Node: 4, Why: shape.Misplaced}}},
		{func(n []api.Node) []api.Node { n[5].Blocks = leafOf("c").Blocks; return n }, []api.Fault{{Node: 5, Why: shape.Misplaced}}},
		{func(n []api.Node) []api.Node { n[5].Blocks = leafOf("m").Blocks; return n }, []api.Fault{{Node: 5, Why: shape.Misplaced}}},
		{func(n []api.Node) []api.Node { n[4].Blocks = leafOf("b", "a").Blocks; return n }, []api.Fault{{Node: 4, Why: shape.Misplaced}}},
		{func(n []api.Node) []api.Node { n[4].Blocks[1] = nil; return n }, []api.Fault{{Node: 4, Why: shape.Misplaced}}},
		{func(n []api.Node) []api.Node {
			n[4].Blocks = [][]api.Entry{{{Key: "a"}, {Key: "b"}, {Key: "c"}}}
			return n
		}, []api.Fault{{Node: 4, Why: shape.Misplaced}}},
		{func(n []api.Node) []api.Node { n[3].Blocks = [][]api.Entry{nil}; return n }, []api.Fault{{Node: 3, Why: shape.Misplaced}}},
		{func(n []api.Node) []api.Node { n[1].Kids[1] = 6; return n }, []api.Fault{{Node: 6, Why: shape.Deep}}},
		{func(n []api.Node) []api.Node { n[1].Kids[0] = 6; return n }, []api.Fault{{Node: 6, Why: shape.Misplaced}, {Node: 6, Why: shape.Twice}}},
		{func(n []api.Node) []api.Node { n[1].Kids[0] = 4; return n }, []api.Fault{{Node: 6, Why: shape.Deep}}},
		{func(n []api.Node) []api.Node { n[2].Msgs[0].Seq = 8; return n }, []api.Fault{{Node: 2, Why: shape.Young}}},
		{func(n []api.Node) []api.Node { n[2].Msgs[2] = put(9, "e"); return n }, []api.Fault{{Node: 2, Why: shape.Young}}},
		{func(n []api.Node) []api.Node { n[2].Msgs[2] = put(10, "e"); return n }, []api.Fault{{Node: 2, Why: shape.Young}}},
		{func(n []api.Node) []api.Node { n[3].Msgs[0].Seq = 9; return n }, []api.Fault{{Node: 3, Why: shape.Young}}},
		{func(n []api.Node) []api.Node { n[2].Msgs[0].Seq = 8; n[1].Msgs[0].Seq = 99; return n }, []api.Fault{{Node: 1, Why: shape.Misread}}},
		{func(n []api.Node) []api.Node {
			n[2].Msgs[0].Seq = 8
			n[1].Msgs[0], n[1].Msgs[1] = n[1].Msgs[1], n[1].Msgs[0]
			return n
		}, []api.Fault{{Node: 1, Why: shape.Misread}}},
		{func(n []api.Node) []api.Node {
			n[2].Msgs[0].Seq = 8
			n[1].Blocks = [][]api.Entry{nil}
			return n
		}, []api.Fault{{Node: 1, Why: shape.Misplaced}, {Node: 2, Why: shape.Young}}},
		{func(n []api.Node) []api.Node { n[2].Msgs[0].Seq, n[2].Blocks = 8, [][]api.Entry{nil}; return n }, []api.Fault{{Node: 2, Why: shape.Misplaced}}},
	} {
		tr := api.Tree{Nodes: x.change(three().Nodes)}
		was := tree.Own(tr)
		if got := shape.Faults(tr, sizes); !slices.Equal(got, x.want) {
			t.Errorf("case %d: %v, want %v", i, got, x.want)
		}
		if shape.Right(tr, sizes) != (len(x.want) == 0) {
			t.Errorf("case %d: Right", i)
		}
		if !reflect.DeepEqual(tr, was) {
			t.Errorf("case %d: what was handed in was changed", i)
		}
	}
}

func TestYoungFromFarAbove(t *testing.T) {
	x := api.Tree{Nodes: []api.Node{{}, {Kind: api.Inner, Kids: []int{2}, Msgs: []api.Msg{put(5, "a")}}, {Kind: api.Inner, Kids: []int{3}}, {Kind: api.Inner, Kids: []int{4}, Msgs: []api.Msg{put(5, "a")}}, leafOf()}}
	if got := shape.Faults(x, sizes); !slices.Equal(got, []api.Fault{{Node: 3, Why: shape.Young}}) {
		t.Error(got)
	}
	x.Nodes[3].Msgs[0].Seq = 4
	if !shape.Right(x, sizes) {
		t.Error("an older one")
	}
}

func TestNewTree(t *testing.T) {
	x := tree.New()
	if f := shape.Faults(x, sizes); len(f) != 0 {
		t.Error(f)
	}
	x.Nodes[1].Kids, x.Nodes[1].Pivots = []int{2, 2}, []string{"m"}
	if f := shape.Faults(x, sizes); !slices.Equal(f, []api.Fault{{Node: 2, Why: shape.Twice}}) {
		t.Error("the example", f)
	}
	want := []int{1, 2, 3, 4, 5, 6, 7}
	if got := []int{shape.Missing, shape.Twice, shape.Parted, shape.Misread, shape.Misplaced, shape.Deep, shape.Young}; !slices.Equal(got, want) {
		t.Error(got)
	}
}

// P16.2
func TestSizes(t *testing.T) {
	kids := func(n int) api.Node { return api.Node{Kind: api.Inner, Kids: make([]int, n)} }
	entries := func(n int) api.Node {
		return api.Node{Kind: api.Leaf, Blocks: [][]api.Entry{make([]api.Entry, n/2), make([]api.Entry, n-n/2)}}
	}
	for i, x := range []struct {
		n           api.Node
		over, under bool
	}{
		{kids(4), false, false}, {kids(5), true, false}, {kids(2), false, false}, {kids(1), false, true}, {kids(0), false, true},
		{entries(8), false, false}, {entries(9), true, false}, {entries(3), false, false}, {entries(2), false, true}, {entries(0), false, true},
		{api.Node{}, false, false}, {api.Node{Kind: 3, Kids: make([]int, 9), Blocks: entries(20).Blocks}, false, false},
	} {
		if shape.Over(x.n, sizes) != x.over || shape.Under(x.n, sizes) != x.under {
			t.Errorf("case %d", i)
		}
	}
	c := sizes
	c.Leaf, c.Fanout = 11, 7
	if shape.Under(entries(3), c) || !shape.Under(entries(2), c) || shape.Under(kids(2), c) || !shape.Under(kids(1), c) {
		t.Error("the whole part")
	}
	heavy := api.Node{Kind: api.Inner, Msgs: []api.Msg{put(1, "abcd"), put(2, "abcd")}}
	if shape.Heavy(heavy, sizes) {
		t.Error("just as many bytes as may be")
	}
	heavy.Msgs[0].Value = "x"
	if !shape.Heavy(heavy, sizes) {
		t.Error("one byte more than may be")
	}
	heavy.Kind = api.Leaf
	if shape.Heavy(heavy, sizes) {
		t.Error("a leaf")
	}
	heavy.Kind = 0
	if shape.Heavy(heavy, sizes) {
		t.Error("of no kind")
	}
	for _, n := range []int{math.MinInt, math.MaxInt} {
		c := api.Config{Fanout: n, Leaf: n, Buffer: n, Block: n}
		shape.Faults(three(), c)
		shape.Over(kids(1), c)
		shape.Under(kids(1), c)
	}
}

// P16.3
func TestWhatFollows(t *testing.T) {
	r := rand.New(rand.NewPCG(1, 1))
	c := sample.Sizes()
	for range 200 {
		x := sample.Tree(r.IntN, 2+r.IntN(3), c.Block)
		if !shape.Right(x, c) || !tree.Sound(x) {
			t.Fatal("a right tree is not sound")
		}
		var e []api.Entry
		var l []api.Msg
		for id := range tree.All(x) {
			l = append(l, x.Nodes[id].Msgs...)
			e = append(e, slices.Concat(x.Nodes[id].Blocks...)...)
		}
		slices.SortStableFunc(l, func(a, b api.Msg) int { return a.Seq - b.Seq })
		if want, got := fold.Entries(l, e, api.Range{}), tree.Entries(x, api.Range{}); !slices.Equal(got, want) {
			t.Fatalf("%q, want %q", got, want)
		}
	}
}

// R1: each call ends, whatever the tree.
func TestAnyTree(t *testing.T) {
	r := rand.New(rand.NewPCG(2, 2))
	for range 3000 {
		var x api.Tree
		for range r.IntN(6) {
			n := api.Node{Kind: api.NodeKind(r.IntN(4))}
			for range r.IntN(4) {
				n.Kids = append(n.Kids, r.IntN(9)-2)
				n.Pivots = append(n.Pivots, sample.Key(r.IntN(9)))
				n.Msgs = append(n.Msgs, api.Msg{Kind: api.Kind(r.IntN(6)), Seq: r.IntN(5), Key: sample.Key(r.IntN(9)), To: sample.Key(r.IntN(9))})
			}
			n.Pivots = n.Pivots[:max(0, len(n.Pivots)-r.IntN(3))]
			x.Nodes = append(x.Nodes, n)
		}
		if shape.Right(x, sizes) && !tree.Sound(x) {
			t.Fatalf("%+v is right, and not sound", x)
		}
	}
}
