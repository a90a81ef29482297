package pour_test

import (
	"math"
	"math/rand/v2"
	"reflect"
	"slices"
	"testing"

	"catchment/api"
	"catchment/compact"
	"catchment/inner"
	"catchment/leaf"
	"catchment/pour"
	"catchment/sample"
	"catchment/shape"
	"catchment/tree"
)

var sizes = sample.Sizes()

func put(seq int, k string) api.Msg {
	return api.Msg{Kind: api.Put, Seq: seq, Key: k, Value: k + k}
}

// two is the root 1 with the leaf 2 and the inner node 3, parted by m; 3 has the leaf 4. (It is sound, and not right.)
func two() api.Tree {
	return api.Tree{Nodes: []api.Node{
		{},
		{Kind: api.Inner, Pivots: []string{"m"}, Kids: []int{2, 3}, Msgs: []api.Msg{put(5, "a"), {Kind: api.Clear, Seq: 6, Key: "b", To: "p"}, put(7, "n"), put(8, "x")}},
		{Kind: api.Leaf, Blocks: [][]api.Entry{{{Key: "b"}, {Key: "c"}}}},
		{Kind: api.Inner, Kids: []int{4}, Msgs: []api.Msg{put(2, "o")}},
		{Kind: api.Leaf},
	}}
}

func meant(t api.Tree) []api.Entry { return tree.Entries(t, api.Range{}) }

// P17.1
func TestPour(t *testing.T) {
	x := two()
	y, n, err := pour.Pour(x, 1, 0, sizes)
	if n != 2 || err != api.OK {
		t.Fatal(n, err)
	}
	if want := [][]api.Entry{{{Key: "a", Value: "aa"}}}; !reflect.DeepEqual(y.Nodes[2].Blocks, want) {
		t.Errorf("the leaf: %+v", y.Nodes[2])
	}
	if want := []api.Msg{{Kind: api.Clear, Seq: 6, Key: "m", To: "p"}, put(7, "n"), put(8, "x")}; !slices.Equal(y.Nodes[1].Msgs, want) {
		t.Errorf("the root: %+v", y.Nodes[1])
	}
	z, n, err := pour.Pour(y, 1, 1, sizes)
	if n != 3 || err != api.OK || len(z.Nodes[1].Msgs) != 0 {
		t.Fatal(n, err, z.Nodes[1])
	}
	if want := []api.Msg{put(2, "o"), {Kind: api.Clear, Seq: 6, Key: "m", To: "p"}, put(7, "n"), put(8, "x")}; !slices.Equal(z.Nodes[3].Msgs, want) {
		t.Errorf("the inner kid: %+v", z.Nodes[3])
	}
	if _, n, err = pour.Pour(z, 1, 1, sizes); n != 0 || err != api.OK {
		t.Error("of none", n, err)
	}
	if !reflect.DeepEqual(x, two()) {
		t.Error("what was handed in was changed")
	}
	n1 := tree.New()
	n1.Nodes[1].Msgs = []api.Msg{put(1, "a")}
	if y, n, _ = pour.Pour(n1, 1, 0, sizes); n != 1 || leaf.Count(y.Nodes[2].Blocks) != 1 {
		t.Error("the example", n)
	}
}

func TestBlocksOfALeafThatIsPoured(t *testing.T) {
	x := tree.New()
	for i, k := range []string{"a", "b", "c", "d", "e"} {
		x.Nodes[1].Msgs = append(x.Nodes[1].Msgs, put(i+1, k))
	}
	c := sizes
	c.Block = 4
	y, _, _ := pour.Pour(x, 1, 0, c)
	if want := leaf.Fold(nil, x.Nodes[1].Msgs, 4); !reflect.DeepEqual(y.Nodes[2].Blocks, want) {
		t.Errorf("%+v, want %+v", y.Nodes[2].Blocks, want)
	}
}

func TestNoSuchPlace(t *testing.T) {
	for _, x := range []struct{ i, at int }{{0, 0}, {2, 0}, {4, 0}, {9, 0}, {-1, 0}, {math.MinInt, 0}, {math.MaxInt, 0}, {1, -1}, {1, 2}, {3, 1}, {1, math.MinInt}, {1, math.MaxInt}} {
		if y, n, err := pour.Pour(two(), x.i, x.at, sizes); len(y.Nodes) != 0 || n != 0 || err != api.ErrArg {
			t.Errorf("Pour(%d, %d): %d, %d", x.i, x.at, n, err)
		}
		if x.at != 0 {
			continue
		}
		if y, err := pour.Drain(two(), x.i, sizes); len(y.Nodes) != 0 || err != api.ErrArg {
			t.Errorf("Drain(%d): %d", x.i, err)
		}
		if y, err := pour.Compact(two(), x.i); len(y.Nodes) != 0 || err != api.ErrArg {
			t.Errorf("Compact(%d): %d", x.i, err)
		}
	}
	x := two()
	x.Nodes = append(x.Nodes, api.Node{Kind: api.Inner, Kids: []int{2}})
	if _, _, err := pour.Pour(x, 5, 0, sizes); err != api.ErrArg {
		t.Error("a node that is not reached", err)
	}
}

// P17.2
func TestCompactAndRoute(t *testing.T) {
	x := two()
	x.Nodes[1].Msgs = append(x.Nodes[1].Msgs, api.Msg{Kind: api.Delete, Seq: 9, Key: "n"}, api.Msg{Kind: api.Put, Seq: 10, Key: "a", Value: "new"})
	y, err := pour.Compact(x, 1)
	if want := compact.List(x.Nodes[1].Msgs); err != api.OK || !slices.Equal(y.Nodes[1].Msgs, want) || len(want) == len(x.Nodes[1].Msgs) {
		t.Errorf("Compact: %+v, %d", y.Nodes[1].Msgs, err)
	}
	if !reflect.DeepEqual(y.Nodes[2:], x.Nodes[2:]) {
		t.Error("Compact changed another node")
	}
	if got := pour.Route(two()); !slices.Equal(got, []int{1, 3, 4}) {
		t.Error("Route", got)
	}
	x = two()
	x.Nodes[3].Msgs = nil
	if got := pour.Route(x); !slices.Equal(got, []int{1, 3}) {
		t.Error("Route up to a node without messages", got)
	}
	x.Nodes[1].Msgs = x.Nodes[1].Msgs[:2]
	if got := pour.Route(x); !slices.Equal(got, []int{1, 2}) {
		t.Error("Route", got)
	}
	if got := pour.Route(tree.New()); !slices.Equal(got, []int{1}) {
		t.Error("Route", got)
	}
}

// P17.1, P17.3, P17.4
func TestWhatFollows(t *testing.T) {
	r := rand.New(rand.NewPCG(1, 1))
	for range 150 {
		x := sample.Tree(r.IntN, 2+r.IntN(3), sizes.Block)
		was, want := tree.Own(x), meant(x)
		right := func(what string, y api.Tree) {
			t.Helper()
			if f := shape.Faults(y, sizes); len(f) > 0 {
				t.Fatalf("%s: %v", what, f)
			}
			if !slices.Equal(meant(y), want) {
				t.Fatalf("%s: another meaning", what)
			}
		}
		for i, span := range tree.All(x) {
			if x.Nodes[i].Kind != api.Inner {
				continue
			}
			at := r.IntN(len(x.Nodes[i].Kids))
			y, n, err := pour.Pour(x, i, at, sizes)
			if err != api.OK || n != len(inner.For(x.Nodes[i], span, at)) || len(inner.For(y.Nodes[i], span, at)) != 0 {
				t.Fatal("Pour", n, err)
			}
			right("Pour", y)
			d, err := pour.Drain(x, i, sizes)
			if err != api.OK || len(d.Nodes[i].Msgs) != 0 {
				t.Fatal("Drain", err)
			}
			right("Drain", d)
			one := x
			for at := range x.Nodes[i].Kids {
				one, _, _ = pour.Pour(one, i, at, sizes)
			}
			if !reflect.DeepEqual(meantNodes(one), meantNodes(d)) {
				t.Fatal("Drain is not Pour of all kids")
			}
			c, err := pour.Compact(x, i)
			if err != api.OK {
				t.Fatal("Compact", err)
			}
			right("Compact", c)
		}
		s := pour.Settle(x, sizes)
		right("Settle", s)
		for i := range tree.All(s) {
			if len(s.Nodes[i].Msgs) > 0 {
				t.Fatal("messages behind Settle")
			}
		}
		for k, i := range pour.Route(x) {
			if k == 0 && i != 1 {
				t.Fatal("Route")
			}
		}
		if !reflect.DeepEqual(x, was) {
			t.Fatal("what was handed in was changed")
		}
	}
}

// meantNodes is nodes without the difference between empty lists and none.
func meantNodes(t api.Tree) []api.Node {
	var l []api.Node
	for _, n := range t.Nodes {
		o := api.Node{Kind: n.Kind, Pivots: append([]string(nil), n.Pivots...), Kids: append([]int(nil), n.Kids...), Msgs: append([]api.Msg(nil), n.Msgs...)}
		for _, b := range n.Blocks {
			o.Blocks = append(o.Blocks, append([]api.Entry(nil), b...))
		}
		l = append(l, o)
	}
	return l
}

// R1: of trees that are not sound each call ends.
func TestNotSound(t *testing.T) {
	r := rand.New(rand.NewPCG(2, 2))
	for range 2000 {
		var x api.Tree
		for range r.IntN(6) {
			n := api.Node{Kind: api.NodeKind(r.IntN(4))}
			for range r.IntN(4) {
				n.Kids = append(n.Kids, r.IntN(9)-2)
				n.Pivots = append(n.Pivots, sample.Key(r.IntN(9)))
				n.Msgs = append(n.Msgs, put(r.IntN(4), sample.Key(r.IntN(9))))
			}
			n.Pivots = n.Pivots[:max(0, len(n.Pivots)-r.IntN(3))]
			x.Nodes = append(x.Nodes, n)
		}
		for i := -1; i < 7; i++ {
			pour.Pour(x, i, r.IntN(4)-1, api.Config{})
			pour.Drain(x, i, api.Config{})
			pour.Compact(x, i)
		}
		pour.Settle(x, api.Config{})
		pour.Route(x)
	}
}
