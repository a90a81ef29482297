package inner_test

import (
	"math"
	"math/rand/v2"
	"reflect"
	"slices"
	"testing"

	"catchment/api"
	"catchment/buffer"
	"catchment/fold"
	"catchment/inner"
	"catchment/pivot"
)

func put(seq int, k string) api.Msg { return api.Msg{Kind: api.Put, Seq: seq, Key: k, Value: "v"} }
func clr(seq int, k, to string) api.Msg {
	return api.Msg{Kind: api.Clear, Seq: seq, Key: k, To: to}
}

func node(pivots []string, kids []int, l ...api.Msg) api.Node {
	return api.Node{Kind: api.Inner, Pivots: pivots, Kids: kids, Msgs: l}
}

// same holds two nodes against each other; a list may be nil where it is empty.
func same(a, b api.Node) bool {
	return a.Kind == b.Kind && slices.Equal(a.Pivots, b.Pivots) && slices.Equal(a.Kids, b.Kids) && slices.Equal(a.Msgs, b.Msgs) &&
		slices.EqualFunc(a.Blocks, b.Blocks, slices.Equal[[]api.Entry])
}

func is(t *testing.T, what string, got, want api.Node) {
	t.Helper()
	if !same(got, want) {
		t.Errorf("%s: %+v, want %+v", what, got, want)
	}
}

var (
	all = api.Range{}
	two = node([]string{"m"}, []int{5, 6}, clr(1, "a", "z"), put(2, "b"))
)

// P14.1
func TestRight(t *testing.T) {
	with := func(change func(*api.Node)) api.Node {
		n := inner.Own(two)
		change(&n)
		return n
	}
	if !inner.Right(two, all) || !inner.Right(two, api.Range{From: "a", To: "z"}) || !inner.Right(node(nil, []int{api.MaxNodes}), all) {
		t.Error("a right one")
	}
	for i, n := range []api.Node{
		{}, node(nil, nil),
		with(func(n *api.Node) { n.Kind = api.Leaf }), with(func(n *api.Node) { n.Kind = 0 }),
		with(func(n *api.Node) { n.Pivots = nil }), with(func(n *api.Node) { n.Pivots = []string{"m", "n"} }), with(func(n *api.Node) { n.Pivots = []string{""} }),
		with(func(n *api.Node) { n.Kids = []int{5} }), with(func(n *api.Node) { n.Kids = []int{5, 5} }),
		with(func(n *api.Node) { n.Kids = []int{0, 5} }), with(func(n *api.Node) { n.Kids = []int{5, -1} }), with(func(n *api.Node) { n.Kids = []int{5, api.MaxNodes + 1} }),
		with(func(n *api.Node) { n.Msgs[1].Seq = 0 }), with(func(n *api.Node) { n.Msgs[1].Kind = 0 }), with(func(n *api.Node) { n.Blocks = [][]api.Entry{nil} }),
	} {
		if inner.Right(n, all) {
			t.Errorf("case %d", i)
		}
	}
	for _, r := range []api.Range{{From: "b", To: "z"}, {From: "a", To: "y"}, {From: "b", To: "b"}, {From: "m"}, {To: "m"}} {
		if inner.Right(two, r) {
			t.Errorf("right for %q", r)
		}
	}
}

func TestKidsAndMessages(t *testing.T) {
	n := node([]string{"d", "m"}, []int{9, 5, 7}, clr(1, "a", "e"), put(2, "z"), put(3, "zz"))
	for s, want := range map[string]int{"": 0, "c": 0, "d": 1, "m": 2, "z": 2} {
		if i, ok := inner.Kid(n, s); i != want || !ok {
			t.Errorf("Kid(%q) = %d, %v", s, i, ok)
		}
	}
	if i, ok := inner.Kid(api.Node{}, "x"); i != 0 || ok {
		t.Error("Kid of none", i, ok)
	}
	for kid, want := range map[int]int{9: 0, 5: 1, 7: 2} {
		if i, ok := inner.Place(n, kid); i != want || !ok {
			t.Errorf("Place(%d) = %d, %v", kid, i, ok)
		}
	}
	if i, ok := inner.Place(n, 1); i != 0 || ok {
		t.Error("Place of none", i, ok)
	}
	for i, want := range [][]api.Msg{{clr(1, "a", "d")}, {clr(1, "d", "e")}, {put(2, "z"), put(3, "zz")}} {
		if got := inner.For(n, all, i); !slices.Equal(got, want) {
			t.Errorf("For(%d) = %+v", i, got)
		}
	}
	for _, i := range []int{-1, 3, math.MinInt, math.MaxInt} {
		if got := inner.For(n, all, i); len(got) != 0 {
			t.Errorf("For(%d) = %+v", i, got)
		}
	}
	if got := inner.Weights(n, all); !slices.Equal(got, []int{18, 18, 37}) {
		t.Error("Weights", got)
	}
	if i, w := inner.Hot(n, all); i != 2 || w != 37 {
		t.Error("Hot", i, w)
	}
	n.Msgs = n.Msgs[:1]
	if i, w := inner.Hot(n, all); i != 0 || w != 18 {
		t.Error("Hot of two alike", i, w)
	}
	n.Msgs = nil
	if i, w := inner.Hot(n, all); i != 0 || w != 0 || !slices.Equal(inner.Weights(n, all), []int{0, 0, 0}) {
		t.Error("Hot without messages", i, w)
	}
	if got := inner.For(two, all, 0); !slices.Equal(got, []api.Msg{clr(1, "a", "m"), put(2, "b")}) {
		t.Error("the example", got)
	}
	if i, _ := inner.Hot(two, all); two.Kids[i] != 5 {
		t.Error("the example's hot kid")
	}
}

// P14.2
func TestAddAndTake(t *testing.T) {
	is(t, "Add", inner.Add(two, put(3, "c"), put(0, "x")), node([]string{"m"}, []int{5, 6}, put(0, "x"), clr(1, "a", "z"), put(2, "b"), put(3, "c")))
	is(t, "Add of none", inner.Add(two), two)
	l, n := inner.Take(two, all, 0)
	if !slices.Equal(l, []api.Msg{clr(1, "a", "m"), put(2, "b")}) {
		t.Error("Take", l)
	}
	is(t, "Take", n, node([]string{"m"}, []int{5, 6}, clr(1, "m", "z")))
	for _, i := range []int{-1, 2, math.MinInt, math.MaxInt} {
		l, n = inner.Take(two, all, i)
		is(t, "Take of no place", n, two)
		if len(l) != 0 {
			t.Error("Take of no place", l)
		}
	}
}

// P14.3
func TestSplitUniteMove(t *testing.T) {
	n := node([]string{"d", "m"}, []int{9, 5, 7}, put(2, "b"))
	for _, x := range []struct {
		i    int
		at   string
		want api.Node
	}{
		{0, "b", node([]string{"b", "d", "m"}, []int{9, 2, 5, 7}, put(2, "b"))},
		{1, "f", node([]string{"d", "f", "m"}, []int{9, 5, 2, 7}, put(2, "b"))},
		{2, "x", node([]string{"d", "m", "x"}, []int{9, 5, 7, 2}, put(2, "b"))},
		{0, "d", api.Node{}}, {1, "d", api.Node{}}, {1, "m", api.Node{}}, {2, "m", api.Node{}}, {-1, "a", api.Node{}}, {3, "x", api.Node{}},
		{math.MinInt, "a", api.Node{}}, {math.MaxInt, "z", api.Node{}},
	} {
		got, ok := inner.Split(n, x.i, x.at, 2)
		is(t, "Split", got, x.want)
		if ok != (x.want.Kind != 0) {
			t.Error("Split", x.i, x.at, ok)
		}
	}
	for i, want := range map[int]api.Node{
		0: node([]string{"m"}, []int{9, 7}, put(2, "b")), 1: node([]string{"d"}, []int{9, 5}, put(2, "b")),
		2: {}, 3: {}, -1: {}, math.MaxInt: {}, math.MinInt: {},
	} {
		got, ok := inner.Unite(n, i)
		is(t, "Unite", got, want)
		if ok != (want.Kind != 0) {
			t.Error("Unite", i, ok)
		}
	}
	for _, x := range []struct {
		i    int
		at   string
		want api.Node
	}{
		{0, "c", node([]string{"c", "m"}, []int{9, 5, 7}, put(2, "b"))}, {1, "z", node([]string{"d", "z"}, []int{9, 5, 7}, put(2, "b"))},
		{0, "m", api.Node{}}, {1, "d", api.Node{}}, {2, "z", api.Node{}}, {-1, "a", api.Node{}}, {math.MaxInt, "z", api.Node{}}, {math.MinInt, "z", api.Node{}},
	} {
		got, ok := inner.Move(n, x.i, x.at)
		is(t, "Move", got, x.want)
		if ok != (x.want.Kind != 0) {
			t.Error("Move", x.i, x.at, ok)
		}
	}
	is(t, "what was handed in", n, node([]string{"d", "m"}, []int{9, 5, 7}, put(2, "b")))
}

// P14.4
func TestHalvesJoinEven(t *testing.T) {
	three := node([]string{"d", "m"}, []int{9, 5, 7}, clr(1, "b", "n"), put(2, "c"), put(3, "d"))
	one, rest := node(nil, []int{9}, clr(1, "b", "d"), put(2, "c")), node([]string{"m"}, []int{5, 7}, clr(1, "d", "n"), put(3, "d"))
	a, b, at := inner.Halves(three)
	is(t, "first half", a, one)
	is(t, "second half", b, rest)
	if at != "d" {
		t.Error("between", at)
	}
	for _, n := range []api.Node{node(nil, []int{4}, put(1, "a")), node(nil, nil)} {
		a, b, at = inner.Halves(n)
		is(t, "first half", a, n)
		is(t, "second half", b, api.Node{})
		if at != "" {
			t.Error("between", at)
		}
	}
	is(t, "Join", inner.Join(one, rest, "d"), node([]string{"d", "m"}, []int{9, 5, 7}, clr(1, "b", "d"), clr(1, "d", "n"), put(2, "c"), put(3, "d")))
	four := node([]string{"p", "q", "r"}, []int{1, 2, 3, 4})
	a, b, at = inner.Even(one, four, "o")
	is(t, "Even", a, node([]string{"o"}, []int{9, 1}, clr(1, "b", "d"), put(2, "c")))
	is(t, "Even", b, node([]string{"q", "r"}, []int{2, 3, 4}))
	if at != "p" {
		t.Error("Even", at)
	}
	a, b, at = inner.Even(node(nil, []int{1}), node(nil, []int{2}), "k")
	is(t, "Even of one and one", a, node(nil, []int{1}))
	is(t, "Even of one and one", b, node(nil, []int{2}))
	if at != "k" {
		t.Error("Even of one and one", at)
	}
}

func TestOwn(t *testing.T) {
	n := api.Node{Kind: 9, Pivots: []string{"a"}, Kids: []int{1, 1}, Msgs: []api.Msg{{}}, Blocks: [][]api.Entry{{{Key: "k"}}, nil}}
	o := inner.Own(n)
	is(t, "Own", o, n)
	o.Pivots[0], o.Kids[0], o.Msgs[0].Key, o.Blocks[0][0].Key, o.Blocks[1] = "z", 9, "z", "z", []api.Entry{{}}
	is(t, "what was handed in", n, api.Node{Kind: 9, Pivots: []string{"a"}, Kids: []int{1, 1}, Msgs: []api.Msg{{}}, Blocks: [][]api.Entry{{{Key: "k"}}, nil}})
}

// spoil writes over all lists of nodes, and over the room behind their ends.
func spoil(nodes ...api.Node) {
	for _, n := range nodes {
		for i := range n.Pivots {
			n.Pivots[i] = "spoilt"
		}
		for i := range n.Kids {
			n.Kids[i] = -1
		}
		for i := range n.Msgs {
			n.Msgs[i].Key = "spoilt"
		}
		_, _, _ = append(n.Pivots, "spoilt"), append(n.Kids, -1), append(n.Msgs, put(9, "spoilt"))
	}
}

func TestNewMemory(t *testing.T) {
	fresh := func() api.Node {
		n := node(append(make([]string, 0, 9), "d", "m"), append(make([]int, 0, 9), 9, 5, 7), clr(1, "b", "n"), put(2, "c"))
		n.Msgs = append(make([]api.Msg, 0, 9), n.Msgs...)
		return n
	}
	n, o := fresh(), node(nil, []int{8})
	split, _ := inner.Split(n, 2, "x", 2)
	unite, _ := inner.Unite(n, 1)
	move, _ := inner.Move(n, 1, "x")
	_, take := inner.Take(n, all, 2)
	_, none := inner.Take(n, all, 9)
	ha, hb, _ := inner.Halves(n)
	ea, eb, _ := inner.Even(n, o, "z")
	oa, _, _ := inner.Halves(o)
	spoil(split, unite, move, take, none, ha, hb, ea, eb, oa, inner.Add(n), inner.Add(n, put(5, "e")), inner.Join(n, o, "z"), inner.Join(o, n, "a"), inner.Own(n))
	if !reflect.DeepEqual(n, fresh()) || o.Kids[0] != 8 {
		t.Errorf("what was handed in was changed: %+v", n)
	}
	if n.Kids[:9][3] != 0 || n.Pivots[:9][2] != "" || n.Msgs[:9][2] != (api.Msg{}) {
		t.Error("the room behind a list's end was changed")
	}
}

var texts = []string{"a", "b", "c", "d", "e", "f", "g"}

func random(r *rand.Rand) api.Node {
	n := node(nil, []int{1 + r.IntN(50)})
	for i, s := range texts {
		if r.IntN(2) == 0 {
			n.Pivots, n.Kids = append(n.Pivots, s), append(n.Kids, 100+i)
		}
	}
	for seq := range r.IntN(6) {
		m := put(seq, texts[r.IntN(7)])
		if r.IntN(2) == 0 {
			m = clr(seq, texts[r.IntN(3)], texts[3+r.IntN(4)])
		}
		n.Msgs = append(n.Msgs, m)
	}
	return n
}

// alike: do messages, one list behind the other, do what others do, to every key?
func alike(want []api.Msg, lists ...[]api.Msg) bool {
	for _, s := range append([]string{"", "aa", "zz"}, texts...) {
		v, is := fold.Value(want, s, "old", true)
		w, has := fold.Value(slices.Concat(lists...), s, "old", true)
		if v != w || is != has {
			return false
		}
	}
	return true
}

// P14.5, P14.6
func TestWhatFollows(t *testing.T) {
	r := rand.New(rand.NewPCG(1, 1))
	for range 1500 {
		n := random(r)
		if !inner.Right(n, all) {
			t.Fatalf("%+v", n)
		}
		i := r.IntN(len(n.Kids))
		l, rest := inner.Take(n, all, i)
		span, _ := pivot.Span(n.Pivots, all, i)
		if !inner.Right(rest, all) || !buffer.Right(l) || !buffer.Within(l, span) || !alike(n.Msgs, l, rest.Msgs) || !alike(n.Msgs, rest.Msgs, l) || len(inner.For(rest, all, i)) > 0 {
			t.Fatalf("Take of %d from %+v: %+v, %+v", i, n, l, rest)
		}
		if split, ok := inner.Split(n, i, span.From+"\x01", 99); !ok || !inner.Right(split, all) {
			t.Fatalf("Split: %+v", split)
		} else if back, ok := inner.Unite(split, i); !ok || !same(back, n) {
			t.Fatalf("Unite: %+v", back)
		}
		if len(n.Kids) < 2 {
			continue
		}
		a, b, at := inner.Halves(n)
		if !inner.Right(a, api.Range{To: at}) || !inner.Right(b, api.Range{From: at}) || !alike(n.Msgs, a.Msgs, b.Msgs) || len(a.Kids) != len(n.Kids)/2 {
			t.Fatalf("Halves of %+v: %+v, %+v", n, a, b)
		}
		j := inner.Join(a, b, at)
		if !inner.Right(j, all) || !alike(n.Msgs, j.Msgs) || !slices.Equal(j.Kids, n.Kids) || !slices.Equal(j.Pivots, n.Pivots) {
			t.Fatalf("Join: %+v", j)
		}
	}
}

// R1: what is no inner node ends, too.
func TestNoInnerNodes(t *testing.T) {
	for _, n := range []api.Node{{}, {Pivots: []string{"b", "a"}}, {Kids: []int{1, 2, 3}}, {Kind: 1, Kids: []int{1}, Pivots: []string{"a", "b", "c"}}, node(nil, []int{1, 2}, put(1, "a"))} {
		for _, i := range []int{math.MinInt, -1, 0, 1, 2, math.MaxInt} {
			inner.For(n, all, i)
			inner.Take(n, all, i)
			inner.Split(n, i, "x", i)
			inner.Unite(n, i)
			inner.Move(n, i, "x")
		}
		inner.Right(n, all)
		inner.Kid(n, "z")
		inner.Weights(n, all)
		inner.Hot(n, all)
		inner.Halves(n)
		inner.Even(n, n, "")
	}
}
