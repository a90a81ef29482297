package tree_test

import (
	"math"
	"math/rand/v2"
	"reflect"
	"slices"
	"testing"

	"catchment/api"
	"catchment/fold"
	"catchment/key"
	"catchment/sample"
	"catchment/tree"
	"catchment/word"
)

func put(seq int, k, v string) api.Msg {
	return api.Msg{Kind: api.Put, Seq: seq, Key: k, Value: v}
}

func leafOf(l ...string) api.Node {
	n := api.Node{Kind: api.Leaf}
	for i := 0; i < len(l); i += 2 {
		n.Blocks = append(n.Blocks, []api.Entry{{Key: l[i], Value: l[i+1]}})
	}
	return n
}

// three is a tree of three levels: root 1 with 4 and 2 parted by m; 4 with 3 and
// 7 parted by d; 2 with 5. 6 is not reached.
func three() api.Tree {
	return api.Tree{Nodes: []api.Node{
		{},
		{Kind: api.Inner, Pivots: []string{"m"}, Kids: []int{4, 2}, Msgs: []api.Msg{{Kind: api.Add, Seq: 9, Key: "a", Delta: 1}, put(10, "x", "root")}},
		{Kind: api.Inner, Kids: []int{5}, Msgs: []api.Msg{put(3, "x", "low"), put(4, "y", "low")}},
		leafOf("a", word.Put(5), "c", "cc"),
		{Kind: api.Inner, Pivots: []string{"d"}, Kids: []int{3, 7}, Msgs: []api.Msg{{Kind: api.Clear, Seq: 1, Key: "a", To: "b"}, {Kind: api.Add, Seq: 2, Key: "a", Delta: 7}, {Kind: api.Delete, Seq: 3, Key: "e"}}},
		leafOf("n", "nn"),
		leafOf("z", "zz"),
		leafOf("e", "ee", "f", "ff"),
	}}
}

// P15.1
func TestNewSetOwn(t *testing.T) {
	n := tree.New()
	if len(n.Nodes) != 3 || !reflect.DeepEqual(n.Nodes[0], api.Node{}) || n.Nodes[1].Kind != api.Inner || !slices.Equal(n.Nodes[1].Kids, []int{2}) ||
		n.Nodes[2].Kind != api.Leaf || len(n.Nodes[2].Blocks) != 0 || !tree.Sound(n) {
		t.Fatalf("%+v", n)
	}
	n.Nodes[1].Kids[0] = 7
	if tree.New().Nodes[1].Kids[0] != 2 {
		t.Error("an answer is kept")
	}
	x := three()
	for _, i := range []int{0, -1, math.MinInt, api.MaxNodes + 1, math.MaxInt} {
		if !reflect.DeepEqual(tree.Set(x, i, leafOf()), x) {
			t.Errorf("Set of %d", i)
		}
	}
	put := leafOf("q", "")
	y := tree.Set(x, 10, put)
	if len(y.Nodes) != 11 || y.Nodes[8].Kind != 0 || y.Nodes[9].Kind != 0 || !reflect.DeepEqual(y.Nodes[10], put) || !reflect.DeepEqual(y.Nodes[:8], x.Nodes) {
		t.Errorf("Set behind the end: %+v", y)
	}
	y.Nodes[10].Blocks[0][0].Key = "spoilt"
	if put.Blocks[0][0].Key != "q" {
		t.Error("Set keeps the node")
	}
	if y = tree.Set(x, 3, put); len(y.Nodes) != 8 || !reflect.DeepEqual(y.Nodes[3], put) || !reflect.DeepEqual(x, three()) {
		t.Error("Set")
	}
	if y = tree.Set(x, 1, put); len(y.Nodes) != 8 || !reflect.DeepEqual(y.Nodes[1], put) {
		t.Error("Set of the root")
	}
	if y = tree.Set(api.Tree{}, api.MaxNodes, put); len(y.Nodes) != api.MaxNodes+1 {
		t.Error("Set of the greatest one")
	}
	y = tree.Own(x)
	if !reflect.DeepEqual(y, x) {
		t.Error("Own")
	}
	for i := range y.Nodes {
		for j := range y.Nodes[i].Kids {
			y.Nodes[i].Kids[j] = 99
		}
		for j := range y.Nodes[i].Msgs {
			y.Nodes[i].Msgs[j].Key = "spoilt"
		}
		for j := range y.Nodes[i].Pivots {
			y.Nodes[i].Pivots[j] = "spoilt"
		}
		for _, e := range y.Nodes[i].Blocks {
			e[0].Key = "spoilt"
		}
		y.Nodes[i].Kind = 9
	}
	if !reflect.DeepEqual(x, three()) {
		t.Error("Own shares something")
	}
}

func TestSound(t *testing.T) {
	if !tree.Sound(three()) {
		t.Error("a sound one")
	}
	for i, change := range []func(x *api.Tree){
		func(x *api.Tree) { x.Nodes = nil }, func(x *api.Tree) { x.Nodes = x.Nodes[:1] },
		func(x *api.Tree) { x.Nodes[1] = leafOf() }, func(x *api.Tree) { x.Nodes[1].Kind = 0 }, func(x *api.Tree) { x.Nodes[1].Kind = 3 },
		func(x *api.Tree) { x.Nodes[5].Kind = 0 }, func(x *api.Tree) { x.Nodes[5].Kind = 3 },
		func(x *api.Tree) { x.Nodes[2].Kids[0] = 99 }, func(x *api.Tree) { x.Nodes[2].Kids[0] = -1 }, func(x *api.Tree) { x.Nodes[2].Kids[0] = math.MaxInt },
		func(x *api.Tree) { x.Nodes[2].Kids[0] = 0; x.Nodes[0] = leafOf() },
		func(x *api.Tree) { x.Nodes[2].Kids[0] = 3 }, func(x *api.Tree) { x.Nodes[2].Kids[0] = 1 }, func(x *api.Tree) { x.Nodes[2].Kids[0] = 2 },
		func(x *api.Tree) { x.Nodes[1].Pivots = nil }, func(x *api.Tree) { x.Nodes[2].Kids = nil }, func(x *api.Tree) { x.Nodes[2].Kids = []int{5, 6} },
		func(x *api.Tree) { x.Nodes[4].Pivots[0] = "m" }, func(x *api.Tree) { x.Nodes[4].Pivots[0] = "" }, func(x *api.Tree) { x.Nodes[1].Pivots[0] = "d" },
	} {
		x := three()
		change(&x)
		if tree.Sound(x) {
			t.Errorf("case %d", i)
		}
	}
	x := three()
	x.Nodes[6] = api.Node{Kind: api.Inner, Kids: []int{6}}
	x.Nodes[3].Msgs = []api.Msg{{}}
	if !tree.Sound(x) {
		t.Error("what is not reached plays no part, nor what a leaf has beside")
	}
}

// P15.2
func TestAllSpanParent(t *testing.T) {
	x := three()
	type at struct {
		id int
		r  api.Range
	}
	want := []at{{1, api.Range{}}, {4, api.Range{To: "m"}}, {3, api.Range{To: "d"}}, {7, api.Range{From: "d", To: "m"}}, {2, api.Range{From: "m"}}, {5, api.Range{From: "m"}}}
	var got []at
	for id, r := range tree.All(x) {
		got = append(got, at{id, r})
	}
	if !slices.Equal(got, want) {
		t.Errorf("All: %v", got)
	}
	for range tree.All(x) {
		break
	}
	for _, w := range want {
		if r, ok := tree.Span(x, w.id); r != w.r || !ok {
			t.Errorf("Span(%d) = %q, %v", w.id, r, ok)
		}
	}
	for id, w := range map[int][2]int{4: {1, 0}, 2: {1, 1}, 3: {4, 0}, 7: {4, 1}, 5: {2, 0}} {
		if p, i, ok := tree.Parent(x, id); p != w[0] || i != w[1] || !ok {
			t.Errorf("Parent(%d) = %d, %d, %v", id, p, i, ok)
		}
	}
	for _, id := range []int{0, 6, 8, -1, math.MinInt, math.MaxInt} {
		if r, ok := tree.Span(x, id); r != (api.Range{}) || ok {
			t.Errorf("Span(%d) = %q, %v", id, r, ok)
		}
		if p, i, ok := tree.Parent(x, id); p != 0 || i != 0 || ok {
			t.Errorf("Parent(%d) = %d, %d, %v", id, p, i, ok)
		}
	}
	if p, i, ok := tree.Parent(x, 1); p != 0 || i != 0 || ok {
		t.Error("Parent of the root")
	}
	if tree.Height(x) != 3 || tree.Count(x) != 6 || tree.Height(tree.New()) != 2 || tree.Count(tree.New()) != 2 {
		t.Error("Height, Count")
	}
}

// P15.3
func TestMeaning(t *testing.T) {
	x := three()
	for s, want := range map[string][]int{"": {1, 4, 3}, "c": {1, 4, 3}, "d": {1, 4, 7}, "m": {1, 2, 5}, "zz": {1, 2, 5}} {
		if got := tree.Path(x, s); !slices.Equal(got, want) {
			t.Errorf("Path(%q) = %v", s, got)
		}
	}
	for s, want := range map[string][]int{"a": {1, 2, 9}, "aa": {1}, "x": {3, 10}, "c": nil} {
		var got []int
		for _, m := range tree.Msgs(x, s) {
			got = append(got, m.Seq)
		}
		if !slices.Equal(got, want) {
			t.Errorf("Msgs(%q): %v", s, got)
		}
	}
	for s, want := range map[string]string{"a": word.Put(8), "c": "cc", "f": "ff", "n": "nn", "x": "root", "y": "low"} {
		if v, ok := tree.Get(x, s); v != want || !ok {
			t.Errorf("Get(%q) = %q, %v", s, v, ok)
		}
	}
	for _, s := range []string{"", "e", "z", "b"} {
		if v, ok := tree.Get(x, s); v != "" || ok {
			t.Errorf("Get(%q) = %q, %v", s, v, ok)
		}
	}
	want := []api.Entry{{Key: "a", Value: word.Put(8)}, {Key: "c", Value: "cc"}, {Key: "f", Value: "ff"}, {Key: "n", Value: "nn"}, {Key: "x", Value: "root"}, {Key: "y", Value: "low"}}
	for _, r := range []struct {
		r        api.Range
		from, to int
	}{{api.Range{}, 0, 6}, {api.Range{From: "c", To: "x"}, 1, 4}, {api.Range{From: "a\x00"}, 1, 6}, {api.Range{From: "b", To: "b"}, 0, 0}, {api.Range{From: "n", To: "a"}, 0, 0}} {
		if got := tree.Entries(x, r.r); !slices.Equal(got, want[r.from:r.to]) {
			t.Errorf("Entries(%q) = %q", r.r, got)
		}
		for _, n := range []int{math.MinInt, -1, 0, 1, 3, 6, 7, math.MaxInt} {
			to := min(r.to, r.from+max(0, min(n, 9)))
			if got := tree.Some(x, r.r, n); !slices.Equal(got, want[r.from:to]) {
				t.Errorf("Some(%q, %d) = %q", r.r, n, got)
			}
		}
	}
	// A leaf's own messages play no part.
	x.Nodes[3].Msgs = []api.Msg{put(30, "c", "of the leaf")}
	if v, ok := tree.Get(x, "c"); v != "cc" || !ok || len(tree.Msgs(x, "c")) != 0 || !slices.Equal(tree.Entries(x, api.Range{}), want) {
		t.Error("the messages of a leaf", v, ok)
	}
	n := tree.New()
	n.Nodes[1].Msgs = []api.Msg{put(1, "a", "x")}
	if v, ok := tree.Get(n, "a"); v != "x" || !ok {
		t.Error("the example", v, ok)
	}
	n.Nodes[1].Msgs = append(n.Nodes[1].Msgs, api.Msg{Kind: api.Delete, Seq: 2, Key: "a"})
	if v, ok := tree.Get(n, "a"); v != "" || ok {
		t.Error("the example", v, ok)
	}
}

// P15.4, P15.5
func TestWhatFollows(t *testing.T) {
	r := rand.New(rand.NewPCG(1, 1))
	for range 200 {
		x := sample.Tree(r.IntN, 2+r.IntN(3), 3)
		was := tree.Own(x)
		if !tree.Sound(x) {
			t.Fatal("a sample is not sound")
		}
		var want []api.Entry
		for i := range sample.Keys {
			s := sample.Key(i)
			v, is := byHand(x, s)
			if is {
				want = append(want, api.Entry{Key: s, Value: v})
			}
			if w, has := tree.Get(x, s); w != v || has != is {
				t.Fatalf("Get(%q) = %q, %v, want %q, %v", s, w, has, v, is)
			}
			leaves := 0
			for id, span := range tree.All(x) {
				in := key.Holds(span, s)
				if in != slices.Contains(tree.Path(x, s), id) {
					t.Fatalf("the range %q of %d and the path of %q", span, id, s)
				}
				if in && x.Nodes[id].Kind == api.Leaf {
					leaves++
				}
			}
			if leaves != 1 {
				t.Fatalf("%q lies in %d leaves", s, leaves)
			}
		}
		if got := tree.Entries(x, api.Range{}); !slices.Equal(got, want) {
			t.Fatalf("Entries: %q, want %q", got, want)
		}
		part := api.Range{From: sample.Key(r.IntN(30)), To: sample.Key(30 + r.IntN(30))}
		want = slices.DeleteFunc(want, func(e api.Entry) bool { return !key.Holds(part, e.Key) })
		if got := tree.Entries(x, part); !slices.Equal(got, want) {
			t.Fatalf("Entries(%q): %q, want %q", part, got, want)
		}
		if !reflect.DeepEqual(x, was) {
			t.Fatal("what was handed in was changed")
		}
	}
}

// byHand is what a key means, told by the words of the document.
func byHand(x api.Tree, s string) (string, bool) {
	id := 1
	var lists [][]api.Msg
	for x.Nodes[id].Kind == api.Inner {
		lists = append(lists, x.Nodes[id].Msgs)
		i := 0
		for i < len(x.Nodes[id].Pivots) && x.Nodes[id].Pivots[i] <= s {
			i++
		}
		id = x.Nodes[id].Kids[i]
	}
	slices.Reverse(lists)
	v, is := "", false
	for _, e := range x.Nodes[id].Blocks {
		if w, ok := fold.Find(e, s); ok {
			v, is = w, true
		}
	}
	return fold.Value(slices.Concat(lists...), s, v, is)
}

// R1: of trees that are not sound each call ends.
func TestNotSound(t *testing.T) {
	r := rand.New(rand.NewPCG(2, 2))
	for range 2000 {
		var x api.Tree
		for range r.IntN(6) {
			n := api.Node{Kind: api.NodeKind(r.IntN(4))}
			for range r.IntN(4) {
				n.Kids = append(n.Kids, r.IntN(9)-2)
				n.Pivots = append(n.Pivots, sample.Key(r.IntN(9)))
			}
			n.Pivots = n.Pivots[:max(0, len(n.Pivots)-r.IntN(3))]
			x.Nodes = append(x.Nodes, n)
		}
		tree.Sound(x)
		tree.Count(x)
		tree.Height(x)
		tree.Path(x, "a3")
		tree.Msgs(x, "a3")
		tree.Get(x, "a3")
		tree.Entries(x, api.Range{})
		tree.Some(x, api.Range{}, 3)
		tree.Parent(x, r.IntN(9)-2)
		tree.Span(x, r.IntN(9)-2)
	}
}
