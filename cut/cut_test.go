package cut_test

import (
	"math"
	"math/rand/v2"
	"reflect"
	"slices"
	"testing"

	"catchment/api"
	"catchment/cut"
	"catchment/inner"
	"catchment/leaf"
	"catchment/sample"
	"catchment/shape"
	"catchment/tree"
)

var sizes = sample.Sizes()

func leafOf(keys ...string) api.Node {
	n := api.Node{Kind: api.Leaf}
	for _, k := range keys {
		n.Blocks = append(n.Blocks, []api.Entry{{Key: k, Value: k}})
	}
	return n
}

func put(seq int, k string) api.Msg { return api.Msg{Kind: api.Put, Seq: seq, Key: k, Value: "v"} }

// two is the root 1 with 5 and 3, parted by m; both have leaves: 5 has 2 and 7, 3 has 4. 6 is not reached.
func two() api.Tree {
	return api.Tree{Nodes: []api.Node{
		{},
		{Kind: api.Inner, Pivots: []string{"m"}, Kids: []int{5, 3}, Msgs: []api.Msg{{Kind: api.Clear, Seq: 9, Key: "k", To: "o"}, put(10, "b")}},
		leafOf("a", "b", "d", "e"),
		{Kind: api.Inner, Kids: []int{4}},
		leafOf("x"),
		{Kind: api.Inner, Pivots: []string{"f"}, Kids: []int{2, 7}, Msgs: []api.Msg{{Kind: api.Clear, Seq: 3, Key: "e", To: "h"}, put(4, "a")}},
		leafOf("q", "r"),
		leafOf(),
	}}
}

func keys(n api.Node) []string {
	var l []string
	for _, e := range leaf.Entries(n.Blocks) {
		l = append(l, e.Key)
	}
	return l
}

// P18.1
func TestSplitOfALeaf(t *testing.T) {
	x := two()
	y, err := cut.Split(x, 5, 0, 6)
	if err != api.OK || !slices.Equal(keys(y.Nodes[2]), []string{"a", "b"}) || !slices.Equal(keys(y.Nodes[6]), []string{"d", "e"}) {
		t.Fatal(err, y)
	}
	if n := y.Nodes[5]; !slices.Equal(n.Kids, []int{2, 6, 7}) || !slices.Equal(n.Pivots, []string{"d", "f"}) || !slices.Equal(n.Msgs, x.Nodes[5].Msgs) {
		t.Errorf("%+v", n)
	}
	if !reflect.DeepEqual(x, two()) {
		t.Error("what was handed in was changed")
	}
	if y, err = cut.Split(x, 5, 0, 20); err != api.OK || len(y.Nodes) != 21 || y.Nodes[20].Kind != api.Leaf || y.Nodes[19].Kind != 0 {
		t.Error("a number behind all", err)
	}
	if y, err = cut.Split(x, 5, 0, api.MaxNodes); err != api.OK || len(y.Nodes) != api.MaxNodes+1 {
		t.Error("the greatest number", err)
	}
}

func TestSplitOfAnInnerNode(t *testing.T) {
	y, err := cut.Split(two(), 1, 0, 6)
	if err != api.OK {
		t.Fatal(err)
	}
	if n := y.Nodes[1]; !slices.Equal(n.Kids, []int{5, 6, 3}) || !slices.Equal(n.Pivots, []string{"f", "m"}) || len(n.Msgs) != 2 {
		t.Errorf("%+v", n)
	}
	if n := y.Nodes[5]; !slices.Equal(n.Kids, []int{2}) || len(n.Pivots) != 0 || !slices.Equal(n.Msgs, []api.Msg{{Kind: api.Clear, Seq: 3, Key: "e", To: "f"}, put(4, "a")}) {
		t.Errorf("%+v", n)
	}
	if n := y.Nodes[6]; n.Kind != api.Inner || !slices.Equal(n.Kids, []int{7}) || !slices.Equal(n.Msgs, []api.Msg{{Kind: api.Clear, Seq: 3, Key: "f", To: "h"}}) {
		t.Errorf("%+v", n)
	}
}

func TestSplitRefused(t *testing.T) {
	for _, x := range []struct {
		i, at, fresh int
		want         api.Errno
	}{
		{5, 0, 5, api.ErrArg}, {5, 0, 2, api.ErrArg}, {5, 0, 1, api.ErrArg}, {5, 0, 0, api.ErrArg}, {5, 0, -1, api.ErrArg}, {5, 0, api.MaxNodes + 1, api.ErrArg}, {5, 0, math.MaxInt, api.ErrArg},
		{6, 0, 8, api.ErrArg}, {2, 0, 8, api.ErrArg}, {0, 0, 8, api.ErrArg}, {99, 0, 8, api.ErrArg}, {math.MinInt, 0, 8, api.ErrArg},
		{5, 2, 8, api.ErrArg}, {5, -1, 8, api.ErrArg}, {5, math.MaxInt, 8, api.ErrArg},
		{3, 0, 8, api.ErrState}, {5, 1, 8, api.ErrState}, {1, 1, 8, api.ErrState}, {3, 0, 4, api.ErrArg},
	} {
		if y, err := cut.Split(two(), x.i, x.at, x.fresh); len(y.Nodes) != 0 || err != x.want {
			t.Errorf("Split(%d, %d, %d): %d, want %d", x.i, x.at, x.fresh, err, x.want)
		}
	}
}

// P18.2
func TestGrow(t *testing.T) {
	x := two()
	y, err := cut.Grow(x, 9, 6)
	if err != api.OK {
		t.Fatal(err)
	}
	if n := y.Nodes[1]; n.Kind != api.Inner || !slices.Equal(n.Kids, []int{9, 6}) || !slices.Equal(n.Pivots, []string{"m"}) || len(n.Msgs) != 0 {
		t.Errorf("%+v", n)
	}
	if n := y.Nodes[9]; !slices.Equal(n.Kids, []int{5}) || !slices.Equal(n.Msgs, []api.Msg{{Kind: api.Clear, Seq: 9, Key: "k", To: "m"}, put(10, "b")}) {
		t.Errorf("%+v", n)
	}
	if n := y.Nodes[6]; !slices.Equal(n.Kids, []int{3}) || !slices.Equal(n.Msgs, []api.Msg{{Kind: api.Clear, Seq: 9, Key: "m", To: "o"}}) {
		t.Errorf("%+v", n)
	}
	if tree.Height(y) != 4 || !reflect.DeepEqual(x, two()) {
		t.Error("Height, or what was handed in")
	}
	for _, p := range [][2]int{{6, 6}, {6, 5}, {5, 6}, {1, 6}, {0, 6}, {6, 0}, {6, -1}, {6, api.MaxNodes + 1}, {math.MaxInt, 6}} {
		if y, err := cut.Grow(x, p[0], p[1]); len(y.Nodes) != 0 || err != api.ErrArg {
			t.Errorf("Grow(%v): %d", p, err)
		}
	}
	if y, err := cut.Grow(tree.New(), 3, 4); len(y.Nodes) != 0 || err != api.ErrState {
		t.Error("of one kid", err)
	}
	if _, err := cut.Grow(tree.New(), 2, 4); err != api.ErrArg {
		t.Error("what is named first", err)
	}
}

// P18.3
func TestManyFreeFresh(t *testing.T) {
	c := api.Config{Leaf: 4, Fanout: 4}
	for n, want := range map[int]int{0: 0, 4: 0, 5: 1, 8: 1, 9: 2, 10: 3, 12: 3, 16: 3, 17: 4} {
		x := tree.New()
		for i := range n {
			x.Nodes[2].Blocks = append(x.Nodes[2].Blocks, []api.Entry{{Key: sample.Key(i)}})
		}
		if got := cut.Many(x, 1, 0, c); got != want {
			t.Errorf("Many of %d: %d, want %d", n, got, want)
		}
	}
	x := two()
	for _, most := range []int{2, 1, 0, -4, math.MinInt} {
		if got := cut.Many(x, 5, 0, api.Config{Leaf: most, Fanout: 99}); got != 1 {
			t.Errorf("Many for %d: %d", most, got)
		}
	}
	x.Nodes[5].Kids, x.Nodes[5].Pivots = []int{2, 7, 8}, []string{"c", "f"}
	x.Nodes = append(x.Nodes, leafOf())
	if got := cut.Many(x, 1, 0, api.Config{Leaf: 99, Fanout: 2}); got != 1 {
		t.Error("Many of an inner kid", got)
	}
	for _, p := range [][2]int{{1, 2}, {1, -1}, {0, 0}, {2, 0}, {6, 0}, {99, 0}} {
		if got := cut.Many(x, p[0], p[1], api.Config{}); got != 0 {
			t.Errorf("Many(%v): %d", p, got)
		}
	}
	x = two()
	for i := range 9 {
		if want := i == 6 || i == 8; cut.Free(x, i) != want {
			t.Errorf("Free(%d)", i)
		}
	}
	for i, want := range map[int]bool{-1: false, api.MaxNodes: true, api.MaxNodes + 1: false, math.MaxInt: false, math.MinInt: false} {
		if cut.Free(x, i) != want {
			t.Errorf("Free(%d)", i)
		}
	}
	if l, ok := cut.Fresh(x, 3); !slices.Equal(l, []int{6, 8, 9}) || !ok {
		t.Error("Fresh", l, ok)
	}
	low := api.Tree{Nodes: []api.Node{{}, {Kind: api.Inner, Kids: []int{3}}, {}, leafOf("a", "b")}}
	if l, ok := cut.Fresh(low, 2); !cut.Free(low, 2) || !slices.Equal(l, []int{2, 4}) || !ok {
		t.Error("the least number that may be free", l, ok)
	}
	if y, err := cut.Split(low, 1, 0, 2); err != api.OK || !slices.Equal(y.Nodes[1].Kids, []int{3, 2}) {
		t.Error("Split with the number 2", err)
	}
	if l, ok := cut.Fresh(x, 0); len(l) != 0 || !ok {
		t.Error("Fresh of 0", l, ok)
	}
	if l, ok := cut.Fresh(x, api.MaxNodes-6); len(l) != api.MaxNodes-6 || !ok {
		t.Error("Fresh of all", len(l), ok)
	}
	for _, n := range []int{-1, math.MinInt, api.MaxNodes - 5, math.MaxInt} {
		if l, ok := cut.Fresh(x, n); len(l) != 0 || ok {
			t.Errorf("Fresh(%d)", n)
		}
	}
}

// P18.4, P18.5
func TestWhatFollows(t *testing.T) {
	r := rand.New(rand.NewPCG(1, 1))
	for range 150 {
		x := sample.Tree(r.IntN, 2+r.IntN(3), sizes.Block)
		was, want, high := tree.Own(x), tree.Entries(x, api.Range{}), tree.Height(x)
		right := func(what string, y api.Tree, height int) {
			t.Helper()
			if f := shape.Faults(y, sizes); len(f) > 0 {
				t.Fatalf("%s: %v", what, f)
			}
			if !slices.Equal(tree.Entries(y, api.Range{}), want) || tree.Height(y) != height {
				t.Fatalf("%s: another meaning, or height", what)
			}
		}
		fresh, _ := cut.Fresh(x, 2)
		for i := range tree.All(x) {
			if x.Nodes[i].Kind != api.Inner {
				continue
			}
			at := r.IntN(len(x.Nodes[i].Kids))
			if kid := x.Nodes[x.Nodes[i].Kids[at]]; len(kid.Kids)+leaf.Count(kid.Blocks) < 2 {
				continue
			}
			y, err := cut.Split(x, i, at, fresh[0])
			if err != api.OK {
				t.Fatal(err)
			}
			right("Split", y, high)
			if span, _ := tree.Span(x, i); !inner.Right(y.Nodes[i], span) {
				t.Fatal("Split: the parent")
			}
		}
		if len(x.Nodes[1].Kids) > 1 {
			y, err := cut.Grow(x, fresh[1], fresh[0])
			if err != api.OK {
				t.Fatal(err)
			}
			right("Grow", y, high+1)
		}
		if !reflect.DeepEqual(x, was) {
			t.Fatal("what was handed in was changed")
		}
	}
}

// R1: of trees that are not sound each call ends.
func TestNotSound(t *testing.T) {
	r := rand.New(rand.NewPCG(2, 2))
	for range 2000 {
		var x api.Tree
		for range r.IntN(6) {
			n := api.Node{Kind: api.NodeKind(r.IntN(4))}
			for range r.IntN(4) {
				n.Kids = append(n.Kids, r.IntN(9)-2)
				n.Pivots = append(n.Pivots, sample.Key(r.IntN(9)))
				n.Blocks = append(n.Blocks, make([]api.Entry, r.IntN(3)))
			}
			n.Pivots = n.Pivots[:max(0, len(n.Pivots)-r.IntN(3))]
			x.Nodes = append(x.Nodes, n)
		}
		for i := -1; i < 7; i++ {
			cut.Split(x, i, r.IntN(4)-1, r.IntN(9))
			cut.Many(x, i, r.IntN(4)-1, api.Config{})
			cut.Grow(x, i, r.IntN(9))
		}
	}
}
