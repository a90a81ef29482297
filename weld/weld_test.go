package weld_test

import (
	"math"
	"math/rand/v2"
	"reflect"
	"slices"
	"testing"

	"catchment/api"
	"catchment/leaf"
	"catchment/sample"
	"catchment/shape"
	"catchment/tree"
	"catchment/weld"
)

var sizes = sample.Sizes()

func put(seq int, k string) api.Msg { return api.Msg{Kind: api.Put, Seq: seq, Key: k, Value: "v"} }
func clr(seq int, k, to string) api.Msg {
	return api.Msg{Kind: api.Clear, Seq: seq, Key: k, To: to}
}

func leafOf(keys ...string) api.Node {
	n := api.Node{Kind: api.Leaf}
	for _, k := range keys {
		n.Blocks = append(n.Blocks, []api.Entry{{Key: k, Value: k}})
	}
	return n
}

func keys(n api.Node) []string {
	var l []string
	for _, e := range leaf.Entries(n.Blocks) {
		l = append(l, e.Key)
	}
	return l
}

// two is the root 1 with 2 and 3, parted by m; 2 has the leaves 4, 5, 6, parted by c and g; 3 has 7.
func two() api.Tree {
	return api.Tree{Nodes: []api.Node{
		{},
		{Kind: api.Inner, Pivots: []string{"m"}, Kids: []int{2, 3}, Msgs: []api.Msg{put(9, "x")}},
		{Kind: api.Inner, Pivots: []string{"c", "g"}, Kids: []int{4, 5, 6}, Msgs: []api.Msg{put(3, "a"), clr(5, "b", "m")}},
		{Kind: api.Inner, Kids: []int{7}, Msgs: []api.Msg{clr(4, "m", "n")}},
		leafOf("a"), leafOf("d", "e"), leafOf(), leafOf("x", "y"),
	}}
}

// P19.1
func TestWeld(t *testing.T) {
	x := two()
	y, gone, err := weld.Weld(x, 2, 0)
	if err != api.OK || gone != 5 || !slices.Equal(keys(y.Nodes[4]), []string{"a", "d", "e"}) || !reflect.DeepEqual(y.Nodes[5], api.Node{}) {
		t.Fatal(err, gone, y)
	}
	if !reflect.DeepEqual(y.Nodes[4].Blocks, leafOf("a", "d", "e").Blocks) {
		t.Error("the blocks of both are not one behind the other")
	}
	if n := y.Nodes[2]; !slices.Equal(n.Kids, []int{4, 6}) || !slices.Equal(n.Pivots, []string{"g"}) || len(n.Msgs) != 2 {
		t.Errorf("%+v", n)
	}
	y, gone, err = weld.Weld(x, 1, 0)
	if err != api.OK || gone != 3 || !reflect.DeepEqual(y.Nodes[3], api.Node{}) {
		t.Fatal(err, gone, y)
	}
	if n := y.Nodes[2]; !slices.Equal(n.Kids, []int{4, 5, 6, 7}) || !slices.Equal(n.Pivots, []string{"c", "g", "m"}) || !slices.Equal(n.Msgs, []api.Msg{put(3, "a"), clr(4, "m", "n"), clr(5, "b", "m")}) {
		t.Errorf("%+v", n)
	}
	if n := y.Nodes[1]; !slices.Equal(n.Kids, []int{2}) || len(n.Pivots) != 0 || len(n.Msgs) != 1 {
		t.Errorf("%+v", n)
	}
	if y, gone, err = weld.Weld(x, 2, 1); err != api.OK || gone != 6 || !slices.Equal(keys(y.Nodes[5]), []string{"d", "e"}) {
		t.Error("with an empty one", err, gone)
	}
	if !reflect.DeepEqual(x, two()) {
		t.Error("what was handed in was changed")
	}
}

var noPairs = [][2]int{{1, 1}, {1, -1}, {2, 2}, {3, 0}, {4, 0}, {0, 0}, {9, 0}, {-1, 0}, {math.MaxInt, 0}, {math.MinInt, 0}, {1, math.MaxInt}, {1, math.MinInt}}

func TestNoPair(t *testing.T) {
	for _, p := range noPairs {
		if y, gone, err := weld.Weld(two(), p[0], p[1]); len(y.Nodes) != 0 || gone != 0 || err != api.ErrArg {
			t.Errorf("Weld(%v): %d", p, err)
		}
		if y, err := weld.Share(two(), p[0], p[1]); len(y.Nodes) != 0 || err != api.ErrArg {
			t.Errorf("Share(%v): %d", p, err)
		}
		if weld.Fits(two(), p[0], p[1], api.Config{Leaf: 99, Fanout: 99}) {
			t.Errorf("Fits(%v)", p)
		}
	}
	uneven := two()
	uneven.Nodes[1].Kids[1] = 7
	for at := range 1 {
		if y, gone, err := weld.Weld(uneven, 1, at); len(y.Nodes) != 0 || gone != 0 || err != api.ErrState {
			t.Error("Weld of a leaf and none", err)
		}
		if y, err := weld.Share(uneven, 1, at); len(y.Nodes) != 0 || err != api.ErrState {
			t.Error("Share of a leaf and none", err)
		}
		if weld.Fits(uneven, 1, at, api.Config{Leaf: 99, Fanout: 99}) {
			t.Error("Fits of a leaf and none")
		}
	}
}

// P19.2
func TestShare(t *testing.T) {
	x := two()
	y, err := weld.Share(x, 2, 0)
	if err != api.OK || !slices.Equal(keys(y.Nodes[4]), []string{"a"}) || !slices.Equal(keys(y.Nodes[5]), []string{"d", "e"}) || !slices.Equal(y.Nodes[2].Pivots, []string{"d", "g"}) {
		t.Fatal("the example", err, y)
	}
	y, err = weld.Share(x, 2, 1)
	if err != api.OK || !slices.Equal(keys(y.Nodes[5]), []string{"d"}) || !slices.Equal(keys(y.Nodes[6]), []string{"e"}) || !slices.Equal(y.Nodes[2].Pivots, []string{"c", "e"}) || !slices.Equal(y.Nodes[2].Kids, []int{4, 5, 6}) {
		t.Fatal(err, y)
	}
	y, err = weld.Share(x, 1, 0)
	if err != api.OK || !slices.Equal(y.Nodes[1].Pivots, []string{"g"}) || !slices.Equal(y.Nodes[1].Kids, []int{2, 3}) {
		t.Fatal(err, y)
	}
	if n := y.Nodes[2]; !slices.Equal(n.Kids, []int{4, 5}) || !slices.Equal(n.Pivots, []string{"c"}) || !slices.Equal(n.Msgs, []api.Msg{put(3, "a"), clr(5, "b", "g")}) {
		t.Errorf("%+v", n)
	}
	if n := y.Nodes[3]; !slices.Equal(n.Kids, []int{6, 7}) || !slices.Equal(n.Pivots, []string{"m"}) || !slices.Equal(n.Msgs, []api.Msg{clr(4, "m", "n"), clr(5, "g", "m")}) {
		t.Errorf("%+v", n)
	}
	if !reflect.DeepEqual(x, two()) {
		t.Error("what was handed in was changed")
	}
	for n, want := range []api.Errno{api.ErrState, api.ErrState, api.OK} {
		few := two()
		few.Nodes[5] = leafOf([]string{"d", "e"}[:n]...)
		if y, err := weld.Share(few, 2, 1); err != want || err != api.OK && len(y.Nodes) != 0 {
			t.Errorf("Share of %d entries: %d", n, err)
		}
	}
}

// P19.3
func TestSink(t *testing.T) {
	x := two()
	x.Nodes[1] = api.Node{Kind: api.Inner, Kids: []int{2}, Msgs: []api.Msg{put(3, "a"), put(4, "x")}}
	x.Nodes[2].Msgs[0].Value = "older"
	was := tree.Own(x)
	y, gone, err := weld.Sink(x)
	if err != api.OK || gone != 2 || !reflect.DeepEqual(y.Nodes[2], api.Node{}) {
		t.Fatal(err, gone)
	}
	if n := y.Nodes[1]; n.Kind != api.Inner || !slices.Equal(n.Kids, []int{4, 5, 6}) || !slices.Equal(n.Pivots, []string{"c", "g"}) ||
		!slices.Equal(n.Msgs, []api.Msg{x.Nodes[2].Msgs[0], put(3, "a"), put(4, "x"), clr(5, "b", "m")}) {
		t.Errorf("%+v", n)
	}
	if !reflect.DeepEqual(x, was) {
		t.Error("what was handed in was changed")
	}
	for i, bad := range []struct {
		t    api.Tree
		want api.Errno
	}{{two(), api.ErrState}, {tree.New(), api.ErrState}, {api.Tree{}, api.ErrArg}, {api.Tree{Nodes: []api.Node{{}, {Kind: api.Inner, Kids: []int{1}}}}, api.ErrArg}} {
		if y, gone, err := weld.Sink(bad.t); len(y.Nodes) != 0 || gone != 0 || err != bad.want {
			t.Errorf("case %d: %d", i, err)
		}
	}
}

func TestFits(t *testing.T) {
	for _, x := range []struct {
		i, at int
		c     api.Config
		want  bool
	}{
		{2, 0, api.Config{Leaf: 6}, true}, {2, 0, api.Config{Leaf: 7}, true}, {2, 0, api.Config{Leaf: 5, Fanout: 99}, false}, {2, 1, api.Config{Leaf: 4}, true}, {2, 1, api.Config{Leaf: 3, Fanout: 99}, false},
		{1, 0, api.Config{Fanout: 8}, true}, {1, 0, api.Config{Fanout: 9}, true}, {1, 0, api.Config{Fanout: 7, Leaf: 99}, false}, {1, 0, api.Config{Fanout: math.MinInt}, false},
	} {
		if weld.Fits(two(), x.i, x.at, x.c) != x.want {
			t.Errorf("Fits(%d, %d, %+v)", x.i, x.at, x.c)
		}
	}
}

// P19.4, P19.5
func TestWhatFollows(t *testing.T) {
	r := rand.New(rand.NewPCG(1, 1))
	sunk := 0
	for range 200 {
		x := sample.Tree(r.IntN, 2+r.IntN(3), sizes.Block)
		was, want, high := tree.Own(x), tree.Entries(x, api.Range{}), tree.Height(x)
		right := func(what string, y api.Tree, height int) {
			t.Helper()
			if f := shape.Faults(y, sizes); len(f) > 0 {
				t.Fatalf("%s: %v", what, f)
			}
			if !slices.Equal(tree.Entries(y, api.Range{}), want) || tree.Height(y) != height {
				t.Fatalf("%s: another meaning, or height", what)
			}
		}
		size := func(n api.Node) int { return len(n.Kids) + leaf.Count(n.Blocks) }
		for i := range tree.All(x) {
			for at := 0; at < len(x.Nodes[i].Kids)-1; at++ {
				first, second := x.Nodes[i].Kids[at], x.Nodes[i].Kids[at+1]
				y, gone, err := weld.Weld(x, i, at)
				if err != api.OK || gone != second || tree.Count(y) != tree.Count(x)-1 {
					t.Fatal("Weld", err)
				}
				right("Weld", y, high)
				y, err = weld.Share(x, i, at)
				if err != api.OK {
					continue
				}
				right("Share", y, high)
				if more := size(y.Nodes[second]) - size(y.Nodes[first]); more != 0 && more != 1 {
					t.Fatal("Share: one has more than the other one by", more)
				}
			}
		}
		if y, _, err := weld.Sink(x); err == api.OK {
			sunk++
			right("Sink", y, high-1)
		}
		if !reflect.DeepEqual(x, was) {
			t.Fatal("what was handed in was changed")
		}
	}
	if sunk == 0 {
		t.Error("no tree was sunk")
	}
}

// R1: of trees that are not sound each call ends.
func TestNotSound(t *testing.T) {
	r := rand.New(rand.NewPCG(2, 2))
	for range 2000 {
		var x api.Tree
		for range r.IntN(6) {
			n := api.Node{Kind: api.NodeKind(r.IntN(4))}
			for range r.IntN(4) {
				n.Kids = append(n.Kids, r.IntN(9)-2)
				n.Pivots = append(n.Pivots, sample.Key(r.IntN(9)))
				n.Blocks = append(n.Blocks, make([]api.Entry, r.IntN(3)))
			}
			n.Pivots = n.Pivots[:max(0, len(n.Pivots)-r.IntN(3))]
			x.Nodes = append(x.Nodes, n)
		}
		for i := -1; i < 7; i++ {
			weld.Weld(x, i, r.IntN(4)-1)
			weld.Share(x, i, r.IntN(4)-1)
			weld.Fits(x, i, r.IntN(4)-1, api.Config{})
		}
		weld.Sink(x)
	}
}
