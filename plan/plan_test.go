package plan_test

import (
	"math"
	"math/rand/v2"
	"reflect"
	"slices"
	"strings"
	"testing"

	"catchment/api"
	"catchment/buffer"
	"catchment/cut"
	"catchment/leaf"
	"catchment/plan"
	"catchment/sample"
	"catchment/shape"
	"catchment/tree"
)

var sizes = api.Config{Key: 8, Value: 16, Fanout: 4, Buffer: 40, Leaf: 4, Block: 2, Nodes: 100, Budget: 1, Chunk: 5}

func put(seq int, k string) api.Msg { return api.Msg{Kind: api.Put, Seq: seq, Key: k, Value: "v"} }
func del(seq int, k string) api.Msg { return api.Msg{Kind: api.Delete, Seq: seq, Key: k} }

// inner makes an inner node of its kids and pivots by turns, with Puts of keys
// numbered from seq on.
func inner(seq int, keys string, turns ...any) api.Node {
	n := api.Node{Kind: api.Inner}
	for _, x := range turns {
		switch x := x.(type) {
		case int:
			n.Kids = append(n.Kids, x)
		case string:
			n.Pivots = append(n.Pivots, x)
		}
	}
	for i, k := range strings.Split(keys, "") {
		n.Msgs = append(n.Msgs, put(seq+i, k))
	}
	return n
}

func leafOf(keys string) api.Node {
	n := api.Node{Kind: api.Leaf}
	for _, k := range strings.Split(keys, "") {
		n.Blocks = append(n.Blocks, []api.Entry{{Key: k, Value: "v"}})
	}
	return n
}

func keys(n api.Node) string {
	s := ""
	for _, e := range leaf.Entries(n.Blocks) {
		s += e.Key
	}
	return s
}

func treeOf(n ...api.Node) api.Tree { return api.Tree{Nodes: append([]api.Node{{}}, n...)} }

// P20.1
func TestActions(t *testing.T) {
	kids := func(n int, keys string) api.Node {
		x := inner(1, keys)
		x.Kids = make([]int, n)
		return x
	}
	for i, x := range []struct {
		n                      api.Node
		root, kid, after, solo api.Action
	}{
		{kids(2, ""), api.Rest, api.Pour, api.Rest, api.Rest},
		{kids(2, "abc"), api.Pour, api.Pour, api.Deeper, api.Deeper},
		{kids(4, "ab"), api.Rest, api.Pour, api.Rest, api.Rest},
		{kids(5, "abc"), api.Grow, api.Split, api.Deeper, api.Deeper},
		{kids(5, ""), api.Grow, api.Split, api.Rest, api.Rest},
		{kids(1, ""), api.Rest, api.Pour, api.Mend, api.Rest},
		{kids(1, "abc"), api.Pour, api.Pour, api.Deeper, api.Deeper},
		{leafOf("abcd"), api.Rest, api.Pour, api.Rest, api.Rest},
		{leafOf("abcde"), api.Grow, api.Split, api.Rest, api.Rest},
		{leafOf("a"), api.Rest, api.Pour, api.Mend, api.Rest},
		{leafOf("ab"), api.Rest, api.Pour, api.Rest, api.Rest},
		{api.Node{}, api.Rest, api.Pour, api.Rest, api.Rest},
	} {
		if got := plan.Root(x.n, sizes); got != x.root {
			t.Errorf("case %d: Root %d", i, got)
		}
		if got := plan.Kid(x.n, sizes); got != x.kid {
			t.Errorf("case %d: Kid %d", i, got)
		}
		if got := plan.After(x.n, sizes, 2); got != x.after {
			t.Errorf("case %d: After %d", i, got)
		}
		for _, n := range []int{1, 0, -5, math.MinInt} {
			if got := plan.After(x.n, sizes, n); got != x.solo {
				t.Errorf("case %d: After, one of %d: %d", i, n, got)
			}
		}
	}
	for _, x := range []struct {
		at, kids, want int
		ok             bool
	}{{0, 2, 0, true}, {1, 2, 0, true}, {2, 3, 1, true}, {0, 1, 0, false}, {0, 0, 0, false}, {2, 2, 0, false}, {-1, 2, 0, false}, {math.MinInt, 2, 0, false}, {math.MaxInt, math.MaxInt, 0, false}, {7, math.MaxInt, 6, true}} {
		if at, ok := plan.Pair(x.at, x.kids); at != x.want || ok != x.ok {
			t.Errorf("Pair(%d, %d) = %d, %v", x.at, x.kids, at, ok)
		}
	}
	for a := range 256 {
		want := map[api.Action]int{api.Grow: 2, api.Split: 1}[api.Action(a)]
		if got := plan.Fresh(api.Action(a)); got != want {
			t.Errorf("Fresh(%d) = %d", a, got)
		}
	}
}

// is holds a pass against what it should be.
func is(t *testing.T, what string, x api.Tree, fresh []int, taken int, freed []int, want api.Errno) api.Tree {
	t.Helper()
	was := tree.Own(x)
	y, n, gone, err := plan.Pass(x, sizes, fresh...)
	if n != taken || !slices.Equal(gone, freed) || err != want {
		t.Fatalf("%s: %d taken, %v freed, %d", what, n, gone, err)
	}
	if !reflect.DeepEqual(x, was) {
		t.Fatalf("%s: what was handed in was changed", what)
	}
	if err != api.OK {
		if len(y.Nodes) != 0 {
			t.Fatalf("%s: a tree beside an error", what)
		}
		return y
	}
	if f := shape.Faults(y, sizes); len(f) > 0 {
		t.Fatalf("%s: %v", what, f)
	}
	if !slices.Equal(tree.Entries(x, api.Range{}), tree.Entries(y, api.Range{})) {
		t.Fatalf("%s: another meaning", what)
	}
	return y
}

// P20.2
func TestPassRestsOrPours(t *testing.T) {
	x := treeOf(inner(1, "ab", 2), leafOf("c"))
	if y := is(t, "neither Over nor Heavy", x, []int{5}, 0, nil, api.OK); !slices.Equal(y.Nodes[1].Msgs, x.Nodes[1].Msgs) {
		t.Error("nothing was to be done")
	}
	// The example: above one leaf all goes down, and the leaf is not split in that pass.
	y := is(t, "above one leaf", treeOf(inner(1, "abcdefg", 2), leafOf("")), nil, 0, nil, api.OK)
	if keys(y.Nodes[2]) != "abcdefg" || len(y.Nodes[1].Msgs) != 0 {
		t.Error(keys(y.Nodes[2]))
	}
	// The kid with the most bytes is poured, no other one.
	y = is(t, "the hot kid", treeOf(inner(1, "anop", 2, "m", 3), leafOf("cd"), leafOf("y")), nil, 0, nil, api.OK)
	if keys(y.Nodes[2]) != "cd" || keys(y.Nodes[3]) != "nopy" || len(y.Nodes[1].Msgs) != 1 {
		t.Error(y)
	}
}

func TestPassGrows(t *testing.T) {
	x := treeOf(inner(1, "am", 2, "c", 3, "f", 4, "k", 5, "q", 6), leafOf("ab"), leafOf("cd"), leafOf("fg"), leafOf("kl"), leafOf("qr"))
	y := is(t, "a root that is Over", x, []int{9, 7, 8}, 2, nil, api.OK)
	if tree.Height(y) != 3 || !slices.Equal(y.Nodes[1].Kids, []int{9, 7}) || !slices.Equal(y.Nodes[9].Kids, []int{2, 3}) {
		t.Error(y)
	}
	is(t, "one number too few", x, []int{9}, 0, nil, api.ErrFull)
}

func TestPassSplits(t *testing.T) {
	x := treeOf(inner(1, "xyz", 2), leafOf("abcdefghij"))
	// ten are cut to five and five, and the second five to two and three
	y := is(t, "a leaf that is Over twice", x, []int{4, 3}, 2, nil, api.OK)
	if !slices.Equal(y.Nodes[1].Kids, []int{2, 4, 3}) || keys(y.Nodes[2]) != "abcde" || keys(y.Nodes[4]) != "fg" || keys(y.Nodes[3]) != "hijxyz" {
		t.Error(y)
	}
	is(t, "one number too few", x, []int{4}, 0, nil, api.ErrFull)
	is(t, "no numbers", x, nil, 0, nil, api.ErrFull)
	// an inner kid that is Over
	x = treeOf(inner(9, "abc", 2), inner(1, "", 3, "b", 4, "c", 5, "d", 6, "e", 7), leafOf("a"), leafOf("b"), leafOf("c"), leafOf("d"), leafOf("e"))
	y = is(t, "an inner kid that is Over", x, []int{20}, 1, nil, api.OK)
	if !slices.Equal(y.Nodes[1].Kids, []int{2, 20}) || !slices.Equal(y.Nodes[2].Kids, []int{3, 4}) || !slices.Equal(y.Nodes[20].Kids, []int{5, 6, 7}) {
		t.Error(y)
	}
}

func TestPassGoesDeeper(t *testing.T) {
	x := treeOf(inner(9, "abx", 2, "m", 3), inner(1, "c", 4, "b", 5), inner(2, "", 6, "p", 7), leafOf("a"), leafOf("bc"), leafOf("mn"), leafOf("pq"))
	y := is(t, "deeper", x, nil, 0, nil, api.OK)
	if len(y.Nodes[1].Msgs) != 1 || buffer.Bytes(y.Nodes[2].Msgs) != 18 || keys(y.Nodes[5]) != "bc" || len(y.Nodes[3].Msgs) != 0 {
		t.Error(y)
	}
}

func TestPassMends(t *testing.T) {
	clear := api.Msg{Kind: api.Clear, Seq: 1, Key: "a", To: "m"}
	root := api.Node{Kind: api.Inner, Pivots: []string{"m", "t"}, Kids: []int{2, 3, 4}, Msgs: []api.Msg{clear, put(2, "o"), put(3, "p")}}
	c := sizes
	sizes.Buffer = 30
	defer func() { sizes = c }()
	// the kid 2 is Under behind the pour: with 3 it has two entries, and fits
	x := treeOf(root, leafOf("abc"), leafOf("mn"), leafOf("tu"))
	x.Nodes[1].Msgs = []api.Msg{clear, del(2, "c"), put(3, "p")}
	y := is(t, "with the next one", x, nil, 0, []int{3}, api.OK)
	if !slices.Equal(y.Nodes[1].Kids, []int{2, 4}) || keys(y.Nodes[2]) != "mn" {
		t.Error(y)
	}
	// with three there it does not fit: both become alike
	x = treeOf(x.Nodes[1], leafOf("abc"), leafOf("mno"), leafOf("tu"))
	y = is(t, "alike", x, nil, 0, nil, api.OK)
	if !slices.Equal(y.Nodes[1].Kids, []int{2, 3, 4}) || keys(y.Nodes[2]) != "m" || keys(y.Nodes[3]) != "no" || y.Nodes[1].Pivots[0] != "n" {
		t.Error(y)
	}
	// the kid 3: its pair is the one ahead
	x = treeOf(root, leafOf("ab"), leafOf("mn"), leafOf("t"))
	x.Nodes[1].Msgs = []api.Msg{del(1, "m"), del(2, "n"), del(3, "o")}
	y = is(t, "with the one ahead", x, nil, 0, []int{3}, api.OK)
	if !slices.Equal(y.Nodes[1].Kids, []int{2, 4}) || keys(y.Nodes[2]) != "ab" {
		t.Error(y)
	}
	// one kid alone can't be mended
	x = treeOf(inner(1, "", 2), leafOf("abc"))
	x.Nodes[1].Msgs = []api.Msg{clear, del(2, "b")}
	y = is(t, "alone", x, nil, 0, nil, api.OK)
	if keys(y.Nodes[2]) != "" {
		t.Error(y)
	}
}

func TestPassSinks(t *testing.T) {
	// The root's kids 2 and 3 have one kid each: 2 is Under behind the pour, both fit, and the root is left with one.
	x := treeOf(inner(9, "abnc", 2, "m", 3), inner(1, "", 4), inner(2, "", 5), leafOf("a"), leafOf("m"))
	c := sizes
	sizes.Buffer = 60
	defer func() { sizes = c }()
	y := is(t, "sinks", x, nil, 0, []int{3, 2}, api.OK)
	if tree.Height(y) != 2 || !slices.Equal(y.Nodes[1].Kids, []int{4, 5}) || len(y.Nodes[1].Msgs) != 4 || y.Nodes[2].Kind != 0 || y.Nodes[3].Kind != 0 {
		t.Error(y)
	}
	// A pair that is not the root's does not sink the tree.
	x = treeOf(inner(30, "abyz", 2), inner(20, "", 3, "m", 4), inner(1, "", 5), inner(2, "", 6), leafOf("a"), leafOf("m"))
	sizes.Buffer = 50
	y = is(t, "not the root's", x, nil, 0, []int{4}, api.OK)
	if tree.Height(y) != 4 || !slices.Equal(y.Nodes[2].Kids, []int{3}) || !slices.Equal(y.Nodes[3].Kids, []int{5, 6}) {
		t.Error(y)
	}
	// Leaves that became one do not sink it.
	x = treeOf(inner(9, "", 2, "m", 3), leafOf("abc"), leafOf("m"))
	x.Nodes[1].Msgs = []api.Msg{del(1, "a"), del(2, "b"), del(3, "c")}
	y = is(t, "leaves", x, nil, 0, []int{3}, api.OK)
	if tree.Height(y) != 2 || keys(y.Nodes[2]) != "m" || !slices.Equal(y.Nodes[1].Kids, []int{2}) {
		t.Error(y)
	}
}

func TestPassRefused(t *testing.T) {
	x := treeOf(inner(1, "abcdefg", 2), leafOf(""))
	for _, fresh := range [][]int{{2}, {1}, {0}, {-1}, {api.MaxNodes + 1}, {3, 3}, {5, 4, 5}, {math.MaxInt}, {math.MinInt}} {
		is(t, "numbers that are not free", x, fresh, 0, nil, api.ErrArg)
	}
	is(t, "numbers that are free", x, []int{3, api.MaxNodes, 4}, 0, nil, api.OK)
	for _, y := range []api.Tree{{}, {Nodes: []api.Node{{}, {Kind: api.Inner, Kids: []int{1}}}}, treeOf(leafOf("a"))} {
		is(t, "not sound", y, nil, 0, nil, api.ErrArg)
		if _, n := plan.Passes(y, sizes, 5); n != 0 {
			t.Error("Passes through a tree that is not sound", n)
		}
	}
}

// P20.2, P20.4
func TestPasses(t *testing.T) {
	x := treeOf(inner(1, "abcdefghijklmnopqrstuvwxyz", 2), leafOf(""))
	want := tree.Entries(x, api.Range{})
	one := x
	for n := range 40 {
		y, made := plan.Passes(x, sizes, n)
		if f := shape.Faults(y, sizes); len(f) > 0 || !slices.Equal(tree.Entries(y, api.Range{}), want) {
			t.Fatal(f)
		}
		due := shape.Over(one.Nodes[1], sizes) || shape.Heavy(one.Nodes[1], sizes)
		if !reflect.DeepEqual(y, one) || made > n || made < n && due {
			t.Fatalf("%d passes of %d", made, n)
		}
		if due {
			fresh, _ := cut.Fresh(one, 50)
			var err api.Errno
			if one, _, _, err = plan.Pass(one, sizes, fresh...); err != api.OK {
				t.Fatal(err)
			}
		}
	}
	for _, most := range []int{0, -1, math.MinInt} {
		if y, n := plan.Passes(x, sizes, most); n != 0 || !reflect.DeepEqual(y, x) {
			t.Errorf("at most %d: %d", most, n)
		}
	}
	y, _ := plan.Passes(x, sizes, 0)
	y.Nodes[1].Msgs[0].Key, y.Nodes[1].Kids[0] = "spoilt", 9
	if x.Nodes[1].Msgs[0].Key != "a" || x.Nodes[1].Kids[0] != 2 {
		t.Error("an answer lies in what was handed in")
	}
	// A root that is Heavy without messages is not due.
	c := sizes
	c.Buffer = -1
	if _, n := plan.Passes(tree.New(), c, 5); n != 0 {
		t.Error("a root without messages", n)
	}
	// A pass may need many numbers.
	long := treeOf(inner(1, "xyz", 2), api.Node{Kind: api.Leaf})
	for i := range 20000 {
		long.Nodes[2].Blocks = append(long.Nodes[2].Blocks, []api.Entry{{Key: string([]byte{'a', byte('a' + i/400), byte('a' + i/20%20), byte('a' + i%20)})}})
	}
	if y, n := plan.Passes(long, sizes, 1); n != 1 || len(y.Nodes[1].Msgs) != 0 || len(y.Nodes[1].Kids) < 10 {
		t.Error("many numbers", n, len(y.Nodes[1].Kids))
	}
	if y, n := plan.Passes(x, sizes, math.MaxInt); n != 1 || keys(y.Nodes[2]) != "abcdefghijklmnopqrstuvwxyz" {
		t.Error("as many as are needed", n)
	}
}

// P20.3, P20.4
func TestWhatFollows(t *testing.T) {
	r := rand.New(rand.NewPCG(1, 1))
	grown, sunk := 0, 0
	for range 150 {
		sizes := sample.Sizes()
		sizes.Buffer = r.IntN(60)
		x := sample.Tree(r.IntN, 2+r.IntN(3), sizes.Block)
		seq := 100000
		for range 12 {
			for range r.IntN(8) {
				seq++
				m := put(seq, sample.Key(r.IntN(sample.Keys)))
				if r.IntN(2) == 0 {
					m = del(seq, m.Key)
				}
				if r.IntN(9) == 0 {
					m = api.Msg{Kind: api.Clear, Seq: seq, Key: sample.Key(r.IntN(30)), To: sample.Key(30 + r.IntN(30))}
				}
				x.Nodes[1].Msgs = buffer.Add(x.Nodes[1].Msgs, m)
			}
			if !shape.Right(x, sizes) {
				t.Fatal("the test's own tree")
			}
			want, high := tree.Entries(x, api.Range{}), tree.Height(x)
			fresh, _ := cut.Fresh(x, 60)
			y, taken, freed, err := plan.Pass(x, sizes, fresh...)
			if err != api.OK {
				t.Fatal(err)
			}
			if f := shape.Faults(y, sizes); len(f) > 0 || !slices.Equal(tree.Entries(y, api.Range{}), want) {
				t.Fatal(f)
			}
			if tree.Count(y) != tree.Count(x)+taken-len(freed) {
				t.Fatal("nodes", tree.Count(x), tree.Count(y), taken, freed)
			}
			for _, i := range freed {
				if !cut.Free(y, i) {
					t.Fatal(i, "is not free")
				}
			}
			if h := tree.Height(y); h > high {
				grown++
			} else if h < high {
				sunk++
			}
			z, n := plan.Passes(y, sizes, 1000)
			if n == 1000 || shape.Over(z.Nodes[1], sizes) || shape.Heavy(z.Nodes[1], sizes) && len(z.Nodes[1].Msgs) > 0 {
				t.Fatal("Passes", n)
			}
			if f := shape.Faults(z, sizes); len(f) > 0 || !slices.Equal(tree.Entries(z, api.Range{}), want) {
				t.Fatal(f)
			}
			x = y
		}
	}
	if grown == 0 {
		t.Error("no tree has grown")
	}
	t.Log(grown, "grown,", sunk, "sunk")
}

// R1: each call ends, whatever the tree and the sizes.
func TestEnds(t *testing.T) {
	r := rand.New(rand.NewPCG(2, 2))
	for range 300 {
		x := sample.Tree(r.IntN, 2+r.IntN(2), 3)
		for range r.IntN(4) {
			i := r.IntN(len(x.Nodes))
			x.Nodes[i].Msgs = append(x.Nodes[i].Msgs, api.Msg{Kind: api.Kind(r.IntN(6)), Seq: r.IntN(9), Key: sample.Key(9), To: sample.Key(r.IntN(20))})
		}
		n := []int{math.MinInt, -1, 0, 1, 2, 4, math.MaxInt}
		c := api.Config{Fanout: n[r.IntN(7)], Leaf: n[r.IntN(7)], Block: n[r.IntN(7)], Buffer: n[r.IntN(7)]}
		plan.Pass(x, c)
		fresh, _ := cut.Fresh(x, 20)
		plan.Pass(x, c, fresh...)
		plan.Passes(x, c, 3)
	}
	// A Clear that touches nothing never goes down: the passes that change nothing come to their end, too.
	x := tree.New()
	x.Nodes[1].Msgs = []api.Msg{{Kind: api.Clear, Seq: 1, Key: "b", To: "a"}, {Kind: api.Clear, Seq: 1, Key: "b", To: "a"}, {Kind: api.Clear, Seq: 1, Key: "b", To: "a"}}
	plan.Passes(x, sizes, math.MaxInt)
}
