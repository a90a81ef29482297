package measure_test

import (
	"math"
	"math/big"
	"math/rand/v2"
	"slices"
	"testing"

	"catchment/api"
	"catchment/buffer"
	"catchment/leaf"
	"catchment/measure"
	"catchment/sample"
	"catchment/tree"
)

// three is the root 1 with 2 and 3, parted by m; 2 has the leaves 4 and 5, 3 the leaf 6. (It is sound; the leaves and 3 have something that plays no part.)
func three() api.Tree {
	e := func(n int) [][]api.Entry { return [][]api.Entry{make([]api.Entry, n)} }
	m := func(n int) []api.Msg { return make([]api.Msg, n) }
	return api.Tree{Nodes: []api.Node{
		{},
		{Kind: api.Inner, Pivots: []string{"m"}, Kids: []int{2, 3}, Msgs: m(3)},
		{Kind: api.Inner, Pivots: []string{"d"}, Kids: []int{4, 5}, Msgs: m(1)},
		{Kind: api.Inner, Kids: []int{6}, Msgs: m(4), Blocks: e(50)},
		{Kind: api.Leaf, Blocks: e(2), Msgs: m(9), Kids: []int{3, 6, 1}}, {Kind: api.Leaf}, {Kind: api.Leaf, Blocks: e(3)}, {Kind: api.Leaf, Blocks: e(9)},
	}}
}

// P39.1, P39.4
func TestLevels(t *testing.T) {
	for i, x := range []struct {
		t                       api.Tree
		levels, messages, bytes []int
		entries                 int
	}{
		{tree.New(), []int{1, 1}, []int{0, 0}, []int{0, 0}, 0},
		{three(), []int{1, 2, 3}, []int{3, 5, 0}, []int{48, 80, 0}, 5},
		{api.Tree{}, nil, nil, nil, 0},
		{api.Tree{Nodes: []api.Node{{}, {Kind: api.Inner, Kids: []int{1}, Msgs: make([]api.Msg, 1)}}}, nil, nil, nil, 0},
		{api.Tree{Nodes: []api.Node{{}, {Kind: api.Leaf, Blocks: [][]api.Entry{{{}}}}}}, nil, nil, nil, 0},
	} {
		if got := measure.Levels(x.t); !slices.Equal(got, x.levels) {
			t.Errorf("case %d: Levels %v", i, got)
		}
		if got := measure.Messages(x.t); !slices.Equal(got, x.messages) {
			t.Errorf("case %d: Messages %v", i, got)
		}
		if got := measure.Bytes(x.t); !slices.Equal(got, x.bytes) {
			t.Errorf("case %d: Bytes %v", i, got)
		}
		if got := measure.Entries(x.t); got != x.entries {
			t.Errorf("case %d: Entries %d", i, got)
		}
	}
	r := rand.New(rand.NewPCG(1, 1))
	for range 100 {
		x := sample.Tree(r.IntN, 2+r.IntN(3), 3)
		levels := measure.Levels(x)
		all, entries, msgs, bytes := 0, 0, 0, 0
		for _, n := range levels {
			all += n
		}
		for _, n := range measure.Messages(x) {
			msgs += n
		}
		for _, n := range measure.Bytes(x) {
			bytes += n
		}
		for i := range tree.All(x) {
			entries += leaf.Count(x.Nodes[i].Blocks)
			msgs -= len(x.Nodes[i].Msgs)
			bytes -= buffer.Bytes(x.Nodes[i].Msgs)
		}
		if all != tree.Count(x) || levels[0] != 1 || len(levels) != tree.Height(x) || entries != measure.Entries(x) || msgs != 0 || bytes != 0 {
			t.Fatal(levels, entries, msgs, bytes)
		}
	}
}

// P39.2, P39.5
func TestShare(t *testing.T) {
	for _, x := range []struct{ a, b, want int }{
		{1, 3, 333}, {2, 3, 666}, {3, 3, 1000}, {0, 3, 0}, {5, 0, 0}, {5, -1, 0}, {-1, 5, 0}, {-1, -5, 0}, {1000, 1, 1000000}, {1001, 1, 1000000}, {999, 1, 999000}, {math.MaxInt, 1, 1000000}, {math.MaxInt, math.MaxInt, 1000},
		{math.MaxInt - 1, math.MaxInt, 999}, {1, math.MaxInt, 0}, {math.MinInt, 1, 0}, {1, math.MinInt, 0}, {math.MaxInt, 1 << 60, 7999},
	} {
		if got := measure.Share(x.a, x.b); got != x.want {
			t.Errorf("Share(%d, %d) = %d, want %d", x.a, x.b, got, x.want)
		}
	}
	r := rand.New(rand.NewPCG(1, 1))
	for range 5000 {
		a, b := int(r.Uint64()>>(1+r.IntN(63))), 1+int(r.Uint64()>>(2+r.IntN(62)))
		want := new(big.Int).Mul(big.NewInt(1000), big.NewInt(int64(a)))
		want.Div(want, big.NewInt(int64(b)))
		if want.Cmp(big.NewInt(1000000)) > 0 {
			want = big.NewInt(1000000)
		}
		if got := measure.Share(a, b); int64(got) != want.Int64() {
			t.Fatalf("Share(%d, %d) = %d, want %d", a, b, got, want)
		}
		if measure.Share(a/2, b) > measure.Share(a, b) || measure.Share(a, b/2+1) < measure.Share(a, b) {
			t.Fatal(a, b)
		}
	}
}

func TestFill(t *testing.T) {
	c := api.Config{Fanout: 4, Leaf: 6}
	if got := measure.Fill(three(), c); !slices.Equal(got, []int{500, 500, 333, 0, 250, 500}) {
		t.Error(got)
	}
	if got := measure.Fill(three(), api.Config{}); !slices.Equal(got, make([]int, 6)) {
		t.Error(got)
	}
	if got := measure.Fill(api.Tree{}, c); len(got) != 0 {
		t.Error(got)
	}
}

// P39.2, P39.6
func TestSpread(t *testing.T) {
	for _, x := range []struct{ l, want []int }{
		{nil, []int{0, 0, 0}}, {[]int{7}, []int{7, 7, 7}}, {[]int{9, 1}, []int{1, 9, 9}}, {[]int{5, 1, 3}, []int{1, 3, 5}}, {[]int{4, 1, 3, 2}, []int{1, 3, 4}}, {[]int{math.MaxInt, math.MinInt, -1}, []int{math.MinInt, -1, math.MaxInt}}, {[]int{2, 2, 1, 2}, []int{1, 2, 2}},
	} {
		l := slices.Clone(x.l)
		a, b, c := measure.Spread(x.l)
		if !slices.Equal([]int{a, b, c}, x.want) || !slices.Equal(l, x.l) {
			t.Errorf("Spread(%v) = %d, %d, %d", l, a, b, c)
		}
	}
	r := rand.New(rand.NewPCG(1, 1))
	for range 500 {
		l := r.Perm(1 + r.IntN(20))
		a, b, c := measure.Spread(l)
		r.Shuffle(len(l), func(i, j int) { l[i], l[j] = l[j], l[i] })
		if x, y, z := measure.Spread(l); x != a || y != b || z != c || a > b || b > c {
			t.Fatal(a, b, c)
		}
	}
}

// P39.3
func TestCostAndBusy(t *testing.T) {
	want := map[api.What][3]int{
		api.Poured: {1, 0, 0}, api.Cut: {1, 0, 0}, api.Grown: {1, 0, 0}, api.Welded: {1, 0, 0}, api.Shared: {1, 0, 0}, api.Sunk: {1, 0, 0}, api.Sent: {1, 0, 0},
		api.Read: {0, 1, 0}, api.Checked: {0, 1, 0}, api.Blocked: {0, 0, 1}, api.Failed: {0, 0, 1},
	}
	var all []api.Move
	for w := range 20 {
		m := api.Move{What: api.What(w)}
		a, b, c := measure.Cost([]api.Move{m})
		if got := [3]int{a, b, c}; got != want[m.What] {
			t.Errorf("Cost of %d: %v", w, got)
		}
		if got := measure.Busy([]api.Move{m}); got != 1000*(a+b+c) {
			t.Errorf("Busy of %d: %d", w, got)
		}
		all = append(all, m)
	}
	a, b, c := measure.Cost(all)
	if a != 7 || b != 2 || c != 2 || measure.Busy(all) != 550 || measure.Busy(nil) != 0 {
		t.Error(a, b, c, measure.Busy(all))
	}
}
