package dump_test

import (
	"math"
	"math/rand/v2"
	"strconv"
	"strings"
	"testing"

	"catchment/api"
	"catchment/dump"
	"catchment/sample"
	"catchment/tree"
)

// full is a tree with all that there can be, and its text.
func full() (api.Tree, string) {
	return api.Tree{Nodes: []api.Node{
		{}, {},
		{Kind: api.Inner, Pivots: []string{"m", ""}, Kids: []int{5, 0, api.MaxNum}, Msgs: []api.Msg{
			{Kind: api.Put, Seq: -api.MaxTags, Key: "a", Value: ""}, {Kind: api.Delete, Seq: 0, Key: ""}, {Kind: api.Add, Seq: api.MaxTags, Key: "\xff", Delta: math.MaxUint64}, {Kind: api.Clear, Seq: 7, Key: "b", To: "a"}}},
		{Kind: api.Leaf, Blocks: [][]api.Entry{{{Key: "b", Value: "x"}, {Key: "a"}}, nil, {{}}}},
		{Kind: api.Inner, Kids: []int{1}},
		{Kind: api.Leaf}, {},
	}}, `tree 7
inner 2 5 6d 0 - 2147483647
put -1099511627776 61 -
delete 0 -
add 1099511627776 ff 18446744073709551615
clear 7 62 61
leaf 3
block 62 78 61 -
block
block - -
inner 4 1
leaf 5
`
}

// P34.1
func TestPrint(t *testing.T) {
	x, want := full()
	if got, err := dump.Print(x); got != want || err != api.OK || dump.Lines(x) != 12 {
		t.Errorf("%q, %d, %d lines", got, err, dump.Lines(x))
	}
	if got, err := dump.Print(tree.New()); got != "tree 3\ninner 1 2\nleaf 2\n" || err != api.OK || dump.Lines(tree.New()) != 3 {
		t.Errorf("the example: %q, %d", got, err)
	}
	if got, err := dump.Print(api.Tree{}); got != "tree 0\n" || err != api.OK || dump.Lines(api.Tree{}) != 1 {
		t.Errorf("no nodes: %q, %d", got, err)
	}
	msg := func(m api.Msg) api.Node { return api.Node{Kind: api.Inner, Kids: []int{1}, Msgs: []api.Msg{m}} }
	for i, n := range []api.Node{
		{Kids: []int{1}}, {Pivots: []string{""}}, {Msgs: make([]api.Msg, 1)}, {Blocks: make([][]api.Entry, 1)}, {Kind: 3}, {Kind: 255},
		{Kind: api.Leaf, Kids: []int{1}}, {Kind: api.Leaf, Pivots: []string{""}}, {Kind: api.Leaf, Msgs: make([]api.Msg, 1)},
		{Kind: api.Inner}, {Kind: api.Inner, Kids: []int{1, 2}}, {Kind: api.Inner, Kids: []int{1}, Pivots: []string{"a"}}, {Kind: api.Inner, Kids: []int{1}, Blocks: make([][]api.Entry, 1)},
		{Kind: api.Inner, Kids: []int{-1}}, {Kind: api.Inner, Kids: []int{api.MaxNum + 1}},
		msg(api.Msg{}), msg(api.Msg{Kind: 5}), msg(api.Msg{Kind: api.Put, Delta: 1}), msg(api.Msg{Kind: api.Delete, Value: "v"}), msg(api.Msg{Kind: api.Delete, Seq: api.MaxTags + 1}), msg(api.Msg{Kind: api.Delete, Seq: -api.MaxTags - 1}), msg(api.Msg{Kind: api.Delete, Seq: math.MinInt}),
	} {
		if got, err := dump.Print(api.Tree{Nodes: []api.Node{{}, n}}); got != "" || err != api.ErrForm || dump.Lines(api.Tree{Nodes: []api.Node{{}, n}}) != 0 {
			t.Errorf("case %d: %q, %d", i, got, err)
		}
	}
	if _, err := dump.Print(api.Tree{Nodes: []api.Node{{Kind: api.Leaf}}}); err != api.ErrForm {
		t.Error("the node 0", err)
	}
	if got, err := dump.Print(api.Tree{Nodes: make([]api.Node, api.MaxNodes+1)}); got != "tree 4097\n" || err != api.OK {
		t.Error("as many nodes as may be", err)
	}
	if _, err := dump.Print(api.Tree{Nodes: make([]api.Node, api.MaxNodes+2)}); err != api.ErrForm {
		t.Error("one node more", err)
	}
	// just as long as may be: two digits a byte, and what stands around
	longest := 0
	for i := range 4 {
		more, want := i%2, []api.Errno{api.OK, api.ErrLimit}[i%2]
		nodes := make([]api.Node, []int{2, 10}[i/2]) // one digit more, so that one of both fits to the byte
		around := len("tree " + strconv.Itoa(len(nodes)) + "\nleaf 1\nblock - \n")
		nodes[1] = api.Node{Kind: api.Leaf, Blocks: [][]api.Entry{{{Value: strings.Repeat("v", (1<<22-around)/2+more)}}}}
		long := api.Tree{Nodes: nodes}
		got, err := dump.Print(long)
		if err != want || dump.Lines(long) != 3 {
			t.Errorf("%d bytes: %d, want %d", len(got), err, want)
		}
		longest = max(longest, len(got))
		if y, line, err := dump.Parse(got); want == api.OK && (!dump.Same(y, long) || line != 0 || err != api.OK) {
			t.Error("Parse of a long one", line, err)
		}
	}
	if longest != 1<<22 {
		t.Error("the longest one has", longest)
	}
}

func TestSame(t *testing.T) {
	x, _ := full()
	y, _ := full()
	y.Nodes[1].Kids, y.Nodes[3].Blocks[1] = []int{}, []api.Entry{}
	if !dump.Same(x, y) || !dump.Same(api.Tree{}, api.Tree{Nodes: []api.Node{}}) {
		t.Error("Same")
	}
	for i, change := range []func(n []api.Node) []api.Node{
		func(n []api.Node) []api.Node { return n[:6] }, func(n []api.Node) []api.Node { n[6].Kind = 1; return n }, func(n []api.Node) []api.Node { n[2].Pivots[1] = "x"; return n }, func(n []api.Node) []api.Node { n[2].Kids[0] = 6; return n },
		func(n []api.Node) []api.Node { n[2].Msgs[3].To = "c"; return n }, func(n []api.Node) []api.Node { n[3].Blocks[0][0].Value = "y"; return n }, func(n []api.Node) []api.Node { n[3].Blocks = n[3].Blocks[:2]; return n }, func(n []api.Node) []api.Node { n[1].Kids = []int{1}; return n },
	} {
		y, _ := full()
		if y.Nodes = change(y.Nodes); dump.Same(x, y) || dump.Same(y, x) {
			t.Errorf("case %d", i)
		}
	}
}

// P34.2
func TestParse(t *testing.T) {
	want, s := full()
	if x, line, err := dump.Parse(s); !dump.Same(x, want) || line != 0 || err != api.OK {
		t.Errorf("%+v, %d, %d", x, line, err)
	}
	for _, x := range []struct {
		s    string
		line int
		want api.Errno
	}{
		{"", 1, api.ErrEnd}, {"tree 3", 1, api.ErrEnd}, {"x", 1, api.ErrEnd}, {"\n", 1, api.ErrForm}, {"tree\n", 1, api.ErrForm}, {"tree -1\n", 1, api.ErrForm}, {"tree 03\n", 1, api.ErrForm}, {"tree 3 \n", 1, api.ErrForm}, {"trees 3\n", 1, api.ErrForm},
		{"tree 2147483648\n", 1, api.ErrForm}, {"tree 2147483647\n", 1, api.ErrLimit}, {"tree 4098\n", 1, api.ErrLimit}, {"tree 4097\n", 0, api.OK}, {"tree 0\n", 0, api.OK}, {"tree 0\nleaf 1\n", 2, api.ErrForm}, {"tree 1\nleaf 0\n", 2, api.ErrForm},
		{"tree 3\nleaf 0\n", 2, api.ErrForm}, {"tree 3\nleaf 3\n", 2, api.ErrForm}, {"tree 3\nleaf 2\n", 0, api.OK}, {"tree 3\nleaf 2", 2, api.ErrEnd}, {"tree 3\nleaf\n", 2, api.ErrForm}, {"tree 3\nleaf 1 2\n", 2, api.ErrForm}, {"tree 3\nleaf -1\n", 2, api.ErrForm},
		{"tree 3\nleaf 1\nleaf 1\n", 3, api.ErrForm}, {"tree 3\nleaf 2\nleaf 1\n", 3, api.ErrForm}, {"tree 3\nleaf 1\n\n", 3, api.ErrForm}, {"tree 3\ntree 3\n", 2, api.ErrForm}, {"tree 3\nblock\n", 2, api.ErrForm}, {"tree 3\ndelete 1 61\n", 2, api.ErrForm},
		{"tree 3\ninner 1\n", 2, api.ErrForm}, {"tree 3\ninner 1 2 61\n", 2, api.ErrForm}, {"tree 3\ninner 1 2 61 3\n", 0, api.OK}, {"tree 3\ninner 1 -2\n", 2, api.ErrForm}, {"tree 3\ninner 1 2147483648\n", 2, api.ErrForm}, {"tree 3\ninner 1 2 6 3\n", 2, api.ErrForm}, {"tree 3\ninner 0 2\n", 2, api.ErrForm},
		{"tree 3\ninner 1 2\nblock\n", 3, api.ErrForm}, {"tree 3\nleaf 1\ndelete 1 61\n", 3, api.ErrForm}, {"tree 3\nleaf 1\nblock 61\n", 3, api.ErrForm}, {"tree 3\nleaf 1\nblock 61 62 63\n", 3, api.ErrForm}, {"tree 3\nleaf 1\nblock \n", 3, api.ErrForm}, {"tree 3\nleaf 1\nblock 61 6\n", 3, api.ErrForm},
		{"tree 3\ninner 1 2\nput 1 61\n", 3, api.ErrForm}, {"tree 3\ninner 1 2\nput 1 61 62 63\n", 3, api.ErrForm}, {"tree 3\ninner 1 2\nput 01 61 62\n", 3, api.ErrForm}, {"tree 3\ninner 1 2\nput -0 61 62\n", 3, api.ErrForm}, {"tree 3\ninner 1 2\nput 1099511627777 61 62\n", 3, api.ErrForm}, {"tree 3\ninner 1 2\nput -1099511627777 61 62\n", 3, api.ErrForm},
		{"tree 3\ninner 1 2\ndelete 1\n", 3, api.ErrForm}, {"tree 3\ninner 1 2\ndelete 1 6\n", 3, api.ErrForm}, {"tree 3\ninner 1 2\nadd 1 61 -1\n", 3, api.ErrForm}, {"tree 3\ninner 1 2\nadd 1 61 18446744073709551616\n", 3, api.ErrForm}, {"tree 3\ninner 1 2\nclear 1 61\n", 3, api.ErrForm}, {"tree 3\ninner 1 2\nnext 1 61\n", 3, api.ErrForm},
		{"tree 3\ninner 1 2\nput 1 61 62", 3, api.ErrEnd}, {strings.Repeat("x", 1<<22+1), 0, api.ErrLimit}, {strings.Repeat("x", 1<<22), 1, api.ErrEnd},
	} {
		got, line, err := dump.Parse(x.s)
		if line != x.line || err != x.want {
			t.Errorf("%.60q: %d at line %d, want %d at %d", x.s, err, line, x.want, x.line)
		}
		if err != api.OK && len(got.Nodes) > 0 {
			t.Errorf("%.60q: a tree beside an error", x.s)
		}
	}
}

// P34.3
func TestComesBack(t *testing.T) {
	r := rand.New(rand.NewPCG(1, 1))
	for range 300 {
		x := sample.Tree(r.IntN, 2+r.IntN(3), 3)
		s, err := dump.Print(x)
		if err != api.OK || strings.Count(s, "\n") != dump.Lines(x) {
			t.Fatal(err)
		}
		if y, line, err := dump.Parse(s); !dump.Same(x, y) || line != 0 || err != api.OK {
			t.Fatalf("%q: %d at line %d", s, err, line)
		}
		// Of a text with a fault what can be read is printed as that text.
		for range 20 {
			b := []byte(s)
			b[r.IntN(len(b))] = "0 1\n-bpi"[r.IntN(8)]
			if y, _, err := dump.Parse(string(b)); err == api.OK {
				if back, err := dump.Print(y); back != string(b) || err != api.OK {
					t.Fatalf("%q is read, and printed as %q", b, back)
				}
			}
		}
	}
}
