package state_test

import (
	"math"
	"math/rand/v2"
	"reflect"
	"slices"
	"testing"

	"catchment/api"
	"catchment/cut"
	"catchment/pour"
	"catchment/sample"
	"catchment/shape"
	"catchment/state"
	"catchment/tree"
	"catchment/weld"
)

var sizes = sample.Sizes()

func put(k, v string) api.Msg { return api.Msg{Kind: api.Put, Key: k, Value: v} }

func leafOf(keys ...string) api.Node {
	n := api.Node{Kind: api.Leaf}
	for _, k := range keys {
		n.Blocks = append(n.Blocks, []api.Entry{{Key: k, Value: k}})
	}
	return n
}

// three is the root 1 with 5 and 3, parted by m; 5 has the leaves 2 and 7, parted by f; 3 has the leaf 9. 4, 6 and 8 are not reached.
func three() api.Tree {
	return api.Tree{Nodes: []api.Node{
		{},
		{Kind: api.Inner, Pivots: []string{"m"}, Kids: []int{5, 3}, Msgs: []api.Msg{{Kind: api.Put, Seq: 20, Key: "b", Value: "x"}}},
		leafOf("a", "b", "d", "e"),
		{Kind: api.Inner, Kids: []int{9}},
		leafOf("q"),
		{Kind: api.Inner, Pivots: []string{"f"}, Kids: []int{2, 7}, Msgs: []api.Msg{{Kind: api.Delete, Seq: 4, Key: "a"}}},
		{}, leafOf(), {}, leafOf("x"),
	}}
}

func load(t *testing.T, x api.Tree, sessions int) *state.State {
	t.Helper()
	s, err := state.Load(x, sizes, sessions)
	if s == nil || err != api.OK {
		t.Fatal(err)
	}
	return s
}

func is(t *testing.T, what string, err, want api.Errno) {
	t.Helper()
	if err != want {
		t.Fatalf("%s: %d, want %d", what, err, want)
	}
}

// hold takes nodes for a session.
func hold(t *testing.T, s *state.State, who int, nodes ...int) {
	t.Helper()
	for _, i := range nodes {
		is(t, "Try", s.Try(i, who), api.OK)
	}
}

// back gives a node back, and says whether with the next version.
func back(t *testing.T, s *state.State, i, who int, bumped bool) {
	t.Helper()
	before := s.Words()[i].Version
	got, err := s.Give(i, who)
	if got != bumped || err != api.OK {
		t.Fatalf("Give of %d: %v, %d", i, got, err)
	}
	if w := s.Words()[i]; w.Owner != 0 || w.Version-before != map[bool]int{true: 1}[bumped] {
		t.Fatalf("Give of %d: the word %+v", i, w)
	}
}

// same holds two trees against each other; a list may be nil where it is empty.
func same(a, b api.Tree) bool {
	return slices.EqualFunc(a.Nodes, b.Nodes, func(x, y api.Node) bool {
		return x.Kind == y.Kind && slices.Equal(x.Pivots, y.Pivots) && slices.Equal(x.Kids, y.Kids) && slices.Equal(x.Msgs, y.Msgs) &&
			slices.EqualFunc(x.Blocks, y.Blocks, slices.Equal[[]api.Entry])
	})
}

// P22.1
func TestLoad(t *testing.T) {
	bad := sizes
	bad.Leaf = 0
	for _, x := range []struct {
		t        api.Tree
		c        api.Config
		sessions int
		want     api.Errno
	}{
		{three(), bad, 1, api.ErrArg}, {three(), sizes, 0, api.ErrArg}, {three(), sizes, -1, api.ErrArg}, {three(), sizes, api.MaxSessions + 1, api.ErrArg},
		{api.Tree{}, sizes, 0, api.ErrArg}, {api.Tree{}, sizes, 1, api.ErrForm}, {api.Tree{Nodes: three().Nodes[:9]}, sizes, 1, api.ErrForm}, {three(), sizes, api.MaxSessions, api.OK},
	} {
		if s, err := state.Load(x.t, x.c, x.sessions); err != x.want || (s == nil) != (err != api.OK) {
			t.Errorf("Load: %d, want %d", err, x.want)
		}
	}
	few := sizes
	for n, want := range map[int]api.Errno{8: api.ErrLimit, 9: api.OK} {
		few.Nodes = n
		if _, err := state.Load(three(), few, 1); err != want {
			t.Errorf("Load with %d nodes: %d", n, err)
		}
	}
	x := three()
	s := load(t, x, 2)
	x.Nodes[2].Blocks[0][0].Key = "spoilt"
	want := three()
	want.Nodes[4] = api.Node{}
	if got := s.Tree(); !same(got, want) {
		t.Errorf("Tree: %+v", got)
	}
	if w := s.Words(); !slices.Equal(w, make([]api.Lock, 10)) {
		t.Errorf("Words: %+v", w)
	}
	if s.Stamp() != 0 || s.Seq() != 20 || s.Left() != sizes.Nodes-6 || len(s.Waits()) != 0 || s.Config() != sizes {
		t.Error(s.Stamp(), s.Seq(), s.Left())
	}
	old := tree.New()
	old.Nodes[1].Msgs = []api.Msg{{Kind: api.Delete, Seq: -7, Key: "a"}}
	if s := load(t, old, 1); s.Seq() != 0 {
		t.Error("Seq of numbers below 0", s.Seq())
	}
	n, err := state.New(sizes, 3)
	if err != api.OK || !same(n.Tree(), tree.New()) || n.Seq() != 0 || len(n.Words()) != 3 {
		t.Error("New", err)
	}
	if n, err := state.New(bad, 3); n != nil || err != api.ErrArg {
		t.Error("New", err)
	}
}

// P22.1: which number is taken
func TestNumbersThatAreTaken(t *testing.T) {
	s := load(t, three(), 2)
	hold(t, s, 1, 1, 5, 2, 7, 3)
	split := func(i, at, want int) {
		t.Helper()
		if got, err := s.Split(1, i, at); got != want || err != api.OK {
			t.Fatalf("Split: %d, %d, want %d", got, err, want)
		}
	}
	split(5, 0, 4) // of those up to the greatest the least one comes first
	split(5, 0, 6)
	hold(t, s, 1, 4, 6)
	split(5, 2, 8)
	split(1, 0, 10) // then the next one above all
	if w := s.Words(); len(w) != 11 || w[10] != (api.Lock{}) || len(s.Tree().Nodes) != 11 {
		t.Error("the word of a new number", w)
	}
	// 5 has 2 and 6 now; 10 has 4, 8 and 7
	if got := s.Tree().Nodes[5].Kids; !slices.Equal(got, []int{2, 6}) {
		t.Fatal(got)
	}
	if gone, err := s.Weld(1, 5, 0); gone != 6 || err != api.OK {
		t.Fatal(gone, err)
	}
	if n, ok := s.Node(6); !ok || n.Kind != 0 || s.Words()[6] != (api.Lock{Version: 1, Gone: true}) || !slices.Equal(s.Waits(), []int{6}) || s.Left() != sizes.Nodes-10 {
		t.Error("a number that waits", n, ok, s.Words()[6], s.Waits(), s.Left())
	}
	if r, ok := s.Span(6); ok || r != (api.Range{}) {
		t.Error("Span of a number that waits", r, ok)
	}
	is(t, "Try of a number that waits", s.Try(6, 2), api.ErrGone)
	if _, err := s.Begin(6); err != api.ErrGone || s.Valid(6, 1) != api.ErrGone {
		t.Error("Begin, Valid of a number that waits", err)
	}
	if _, err := s.Give(6, 1); err != api.ErrOwner {
		t.Error("Give of a number that waits", err)
	}
	is(t, "Enter", s.Enter(2), api.OK)
	is(t, "Leave", s.Leave(2), api.OK)
	if _, ok := s.Node(6); ok || len(s.Waits()) != 0 || s.Left() != sizes.Nodes-9 {
		t.Error("a number that is free")
	}
	split(5, 0, 6)
	if w := s.Words()[6]; w != (api.Lock{Version: 2}) {
		t.Error("a word that was renewed", w)
	}
}

// P22.2
func TestTold(t *testing.T) {
	s := load(t, three(), 2)
	for i := range 12 {
		n, ok := s.Node(i)
		if want := slices.Contains([]int{1, 2, 3, 5, 7, 9}, i); ok != want || !want && !reflect.DeepEqual(n, api.Node{}) {
			t.Errorf("Node(%d): %v", i, ok)
		}
		r, ok := s.Span(i)
		if want, has := tree.Span(three(), i); r != want || ok != has {
			t.Errorf("Span(%d): %q, %v", i, r, ok)
		}
	}
	for _, i := range []int{-1, math.MinInt, math.MaxInt} {
		if _, ok := s.Node(i); ok {
			t.Errorf("Node(%d)", i)
		}
	}
	// What is told is new memory.
	n, _ := s.Node(5)
	n.Pivots[0], n.Kids[0], n.Msgs[0].Key = "z", 9, "z"
	x := s.Tree()
	x.Nodes[2].Blocks[0][0].Key, x.Nodes[1].Kids[0] = "z", 9
	s.Words()[1].Owner = 2
	if m, _ := s.Node(5); m.Pivots[0] != "f" || m.Kids[0] != 2 || m.Msgs[0].Key != "a" || !same(s.Tree(), load(t, three(), 1).Tree()) || s.Words()[1].Owner != 0 {
		t.Error("what is told is kept")
	}
}

// P22.3
func TestTryAndGive(t *testing.T) {
	s := load(t, three(), 2)
	for _, who := range []int{0, -1, 3, math.MaxInt} {
		is(t, "Try", s.Try(1, who), api.ErrArg)
		is(t, "Try", s.Try(99, who), api.ErrArg)
		is(t, "Enter", s.Enter(who), api.ErrArg)
		is(t, "Leave", s.Leave(who), api.ErrArg)
		if b, err := s.Give(1, who); b || err != api.ErrOwner {
			t.Error("Give", err)
		}
	}
	for _, i := range []int{0, 4, 10, -1, math.MaxInt, math.MinInt} {
		is(t, "Try", s.Try(i, 1), api.ErrGone)
		is(t, "Valid", s.Valid(i, 0), api.ErrGone)
		if b, err := s.Give(i, 1); b || err != api.ErrGone {
			t.Error("Give", err)
		}
		if v, err := s.Begin(i); v != 0 || err != api.ErrGone {
			t.Error("Begin", err)
		}
	}
	is(t, "Leave", s.Leave(1), api.ErrState)
	is(t, "Enter", s.Enter(1), api.OK)
	is(t, "Enter", s.Enter(1), api.ErrState)
	hold(t, s, 1, 3)
	is(t, "Try", s.Try(3, 2), api.ErrLocked)
	is(t, "Try", s.Try(3, 1), api.ErrLocked)
	if _, err := s.Begin(3); err != api.ErrLocked || s.Valid(3, 0) != api.ErrLocked || s.Valid(3, 1) != api.ErrOrder {
		t.Error("of a node that is held", err)
	}
	s.Try(1, 2)
	s.Send(2, nil)
	if b, err := s.Give(1, 1); b || err != api.ErrOwner {
		t.Error("Give of one that another one has changed", err)
	}
	back(t, s, 1, 2, true)
	if _, err := s.Give(3, 2); err != api.ErrOwner {
		t.Error("Give by another one", err)
	}
	back(t, s, 3, 1, false)
	if v, err := s.Begin(3); v != 0 || err != api.OK || s.Valid(3, 0) != api.OK {
		t.Error("of a node that was given back", v, err)
	}
	hold(t, s, 1, 1)
	if n, err := s.Send(1, nil); n != 2 || err != api.OK {
		t.Error("Send of nothing", n, err)
	}
	back(t, s, 1, 1, true)
	hold(t, s, 2, 1)
	back(t, s, 1, 2, false) // it is not changed since it was taken
	if s.Valid(1, 1) != api.ErrOrder || s.Valid(1, 2) != api.OK {
		t.Error("Valid")
	}
}

// P22.4
func TestSend(t *testing.T) {
	s := load(t, three(), 2)
	was := s.Tree()
	if n, err := s.Send(1, []api.Msg{put("a", "v")}); n != 0 || err != api.ErrOwner {
		t.Error("Send by who does not hold the root", err)
	}
	hold(t, s, 1, 1)
	for _, x := range []struct {
		who  int
		l    []api.Msg
		want api.Errno
	}{
		{2, []api.Msg{put("a", "v")}, api.ErrOwner}, {0, []api.Msg{put("", "v")}, api.ErrOwner}, {1, []api.Msg{put("", "v")}, api.ErrSize},
		{1, []api.Msg{{Kind: api.Put, Key: "a", Seq: 1}}, api.ErrForm}, {1, make([]api.Msg, api.MaxBatch+1), api.ErrBatch}, {1, []api.Msg{put("a", ""), {Kind: api.Clear, Key: "b", To: "b"}}, api.ErrRange},
	} {
		if n, err := s.Send(x.who, x.l); n != 0 || err != x.want {
			t.Errorf("Send: %d, want %d", err, x.want)
		}
	}
	if !same(s.Tree(), was) || s.Stamp() != 0 || s.Seq() != 20 {
		t.Error("what is refused changed something")
	}
	l := []api.Msg{put("z", "1"), {Kind: api.Clear, Key: "a", To: "c"}, put("b", "2")}
	if n, err := s.Send(1, l); n != 1 || err != api.OK || s.Stamp() != 1 || s.Seq() != 23 {
		t.Error("Send", n, err, s.Stamp(), s.Seq())
	}
	if l[0].Seq != 0 {
		t.Error("what was handed in was changed")
	}
	var got []int
	n, _ := s.Node(1)
	for _, m := range n.Msgs {
		got = append(got, m.Seq)
	}
	if !slices.Equal(got, []int{20, 21, 22, 23}) || n.Msgs[1].Key != "z" || n.Msgs[3].Value != "2" {
		t.Error("the root's messages", n.Msgs)
	}
	if n, _ := s.Send(1, l[:1]); n != 2 || s.Seq() != 24 {
		t.Error("the next stamp", n)
	}
	back(t, s, 1, 1, true)
}

// P22.5
func TestGrowSplitPour(t *testing.T) {
	s := load(t, three(), 2)
	if a, b, err := s.Grow(1); a != 0 || b != 0 || err != api.ErrOwner {
		t.Error("Grow", err)
	}
	hold(t, s, 1, 1)
	want, _ := cut.Grow(s.Tree(), 4, 6)
	a, b, err := s.Grow(1)
	if a != 4 || b != 6 || err != api.OK || !same(s.Tree(), want) || s.Left() != sizes.Nodes-8 {
		t.Error("Grow", a, b, err)
	}
	if w := s.Words(); w[4] != (api.Lock{}) || w[6] != (api.Lock{}) {
		t.Error("the words of new nodes", w)
	}
	back(t, s, 1, 1, true)

	s = load(t, three(), 2)
	hold(t, s, 1, 5)
	for _, x := range []struct {
		i, at int
		want  api.Errno
	}{{5, 0, api.ErrOwner}, {5, 2, api.ErrArg}, {5, -1, api.ErrArg}, {2, 0, api.ErrArg}, {4, 0, api.ErrArg}, {0, 0, api.ErrArg}, {99, 0, api.ErrArg}, {3, 0, api.ErrOwner}, {5, math.MaxInt, api.ErrArg}, {5, math.MinInt, api.ErrArg}} {
		if n, err := s.Split(1, x.i, x.at); n != 0 || err != x.want {
			t.Errorf("Split(%d, %d): %d, want %d", x.i, x.at, err, x.want)
		}
		if n, err := s.Pour(1, x.i, x.at); n != 0 || err != x.want {
			t.Errorf("Pour(%d, %d): %d, want %d", x.i, x.at, err, x.want)
		}
	}
	hold(t, s, 2, 2)
	if _, err := s.Split(1, 5, 0); err != api.ErrOwner {
		t.Error("Split of a kid that another one holds", err)
	}
	hold(t, s, 1, 7)
	if n, err := s.Split(1, 5, 1); n != 0 || err != api.ErrState {
		t.Error("Split of a leaf without entries", err)
	}
	if n, err := s.Pour(1, 5, 1); n != 0 || err != api.OK {
		t.Error("Pour of nothing", n, err)
	}
	back(t, s, 7, 1, false)
	back(t, s, 2, 2, false)
	hold(t, s, 1, 2)
	want, _, _ = pour.Pour(s.Tree(), 5, 0, sizes)
	if n, err := s.Pour(1, 5, 0); n != 1 || err != api.OK || !same(s.Tree(), want) {
		t.Error("Pour", n, err)
	}
	want, _ = cut.Split(want, 5, 0, 4)
	if n, err := s.Split(1, 5, 0); n != 4 || err != api.OK || !same(s.Tree(), want) {
		t.Error("Split", n, err)
	}
	back(t, s, 5, 1, true)
	back(t, s, 2, 1, true)
}

func TestWithoutNumbers(t *testing.T) {
	few := sizes
	x := three()
	for _, i := range []int{4, 6} {
		x.Nodes[1].Kids, x.Nodes[1].Pivots = append(x.Nodes[1].Kids, i), append(x.Nodes[1].Pivots, string(rune('p'+i)))
		x.Nodes[i] = api.Node{Kind: api.Inner, Kids: []int{i + 6}}
		x.Nodes = append(x.Nodes, api.Node{}, leafOf())
	}
	few.Nodes = 13
	x.Nodes[9], x.Nodes[10], x.Nodes[12] = leafOf("n"), leafOf(), leafOf()
	s, err := state.Load(x, few, 1)
	if err != api.OK {
		t.Fatal(err)
	}
	hold(t, s, 1, 1, 5, 2, 7)
	for want := s.Left(); want > 1; want-- {
		if _, err := s.Split(1, 5, 0); err != api.OK {
			t.Fatal(err)
		}
	}
	was := s.Tree()
	if s.Left() != 1 {
		t.Fatal(s.Left())
	}
	if a, b, err := s.Grow(1); a != 0 || b != 0 || err != api.ErrFull || !same(s.Tree(), was) || s.Left() != 1 {
		t.Error("Grow with one number left", err)
	}
	hold(t, s, 1, 3)
	if n, err := s.Split(1, 1, 1); n != 0 || err != api.ErrState {
		t.Error("what is named first", err)
	}
	if _, err = s.Split(1, 1, 0); err != api.OK || s.Left() != 0 {
		t.Error("the last number", err)
	}
	was = s.Tree()
	if n, err := s.Split(1, 1, 0); n != 0 || err != api.ErrFull || !same(s.Tree(), was) {
		t.Error("Split without numbers", err)
	}
	one, _ := state.New(sizes, 1)
	hold(t, one, 1, 1)
	if a, b, err := one.Grow(1); a != 0 || b != 0 || err != api.ErrState {
		t.Error("Grow of a root with one kid", err)
	}
}

// P22.6
func TestWeldShareSink(t *testing.T) {
	s := load(t, three(), 2)
	hold(t, s, 1, 1, 5)
	for _, x := range []struct {
		i, at int
		want  api.Errno
	}{{1, 0, api.ErrOwner}, {1, 1, api.ErrArg}, {1, -1, api.ErrArg}, {3, 0, api.ErrArg}, {2, 0, api.ErrArg}, {4, 0, api.ErrArg}, {99, 0, api.ErrArg}, {5, 0, api.ErrOwner}, {1, math.MaxInt, api.ErrArg}, {1, math.MinInt, api.ErrArg}} {
		if n, err := s.Weld(1, x.i, x.at); n != 0 || err != x.want {
			t.Errorf("Weld(%d, %d): %d, want %d", x.i, x.at, err, x.want)
		}
		is(t, "Share", s.Share(1, x.i, x.at), x.want)
	}
	hold(t, s, 1, 3)
	want, _ := weld.Share(s.Tree(), 1, 0)
	is(t, "Share", s.Share(1, 1, 0), api.OK)
	if !same(s.Tree(), want) {
		t.Error("Share")
	}
	for _, i := range []int{1, 5, 3} {
		back(t, s, i, 1, true)
	}
	hold(t, s, 1, 1, 5, 3)
	if n, err := s.Sink(1); n != 0 || err != api.ErrState {
		t.Error("Sink of two kids", err)
	}
	want, _, _ = weld.Weld(s.Tree(), 1, 0)
	if n, err := s.Weld(1, 1, 0); n != 3 || err != api.OK || !same(s.Tree(), want) {
		t.Error("Weld", n, err)
	}
	if n, err := s.Sink(2); n != 0 || err != api.ErrOwner {
		t.Error("Sink by who does not hold the root", err)
	}
	back(t, s, 5, 1, true)
	if n, err := s.Sink(1); n != 0 || err != api.ErrOwner {
		t.Error("Sink by who does not hold the kid", err)
	}
	hold(t, s, 1, 5)
	want, _, _ = weld.Sink(s.Tree())
	if n, err := s.Sink(1); n != 5 || err != api.OK || !same(s.Tree(), want) || !slices.Equal(s.Waits(), []int{3, 5}) {
		t.Error("Sink", n, err)
	}
	if w := s.Words(); w[3] != (api.Lock{Version: 2, Gone: true}) || w[5] != (api.Lock{Version: 3, Gone: true}) {
		t.Error("words that are gone", w)
	}
	if n, err := s.Sink(1); n != 0 || err != api.ErrState {
		t.Error("Sink above leaves", err)
	}
	back(t, s, 1, 1, true)
	few := load(t, three(), 1)
	hold(t, few, 1, 5, 2, 7)
	if err := few.Share(1, 5, 0); err != api.OK {
		t.Error("Share of leaves", err)
	}
	one := three()
	one.Nodes[2] = leafOf("a")
	few = load(t, one, 1)
	hold(t, few, 1, 5, 2, 7)
	if err := few.Share(1, 5, 0); err != api.ErrState {
		t.Error("Share of too few", err)
	}
	back(t, few, 5, 1, false)
	solo, _ := state.New(sizes, 1)
	hold(t, solo, 1, 1)
	if _, err := solo.Sink(1); err != api.ErrState {
		t.Error("Sink above one leaf", err)
	}
}

// P22.7
func TestForkAndNil(t *testing.T) {
	s := load(t, three(), 2)
	hold(t, s, 1, 1)
	s.Enter(2)
	f := s.Fork()
	before := s.Tree()
	f.Send(1, []api.Msg{put("a", "v")})
	f.Grow(1)
	f.Leave(2)
	f.Give(1, 1)
	if !same(s.Tree(), before) || s.Stamp() != 0 || s.Seq() != 20 || s.Words()[1].Owner != 1 || s.Leave(2) != api.OK || s.Left() != sizes.Nodes-6 {
		t.Error("a fork changed the state")
	}
	after := f.Tree()
	s.Send(1, []api.Msg{put("c", "v"), put("d", "v")})
	if !same(f.Tree(), after) || f.Stamp() != 1 || f.Words()[1] != (api.Lock{Version: 1}) {
		t.Error("a state changed its fork")
	}
	var n *state.State
	if n.Config() != (api.Config{}) || len(n.Tree().Nodes) != 0 || len(n.Words()) != 0 || n.Stamp() != 0 || n.Seq() != 0 || n.Left() != 0 || len(n.Waits()) != 0 || n.Fork() != nil {
		t.Error("nil")
	}
	if x, ok := n.Node(1); ok || x.Kind != 0 {
		t.Error("Node")
	}
	if _, ok := n.Span(1); ok {
		t.Error("Span")
	}
	b1, e1 := n.Give(1, 1)
	n2, e2 := n.Begin(1)
	n3, e3 := n.Send(1, nil)
	n4, m4, e4 := n.Grow(1)
	n5, e5 := n.Split(1, 1, 0)
	n6, e6 := n.Pour(1, 1, 0)
	n7, e7 := n.Weld(1, 1, 0)
	n8, e8 := n.Sink(1)
	if b1 || n2+n3+n4+m4+n5+n6+n7+n8 != 0 {
		t.Error("something beside an error")
	}
	for i, err := range []api.Errno{n.Enter(1), n.Leave(1), n.Try(1, 1), n.Try(1, 0), n.Valid(1, 0), n.Share(1, 1, 0), e1, e2, e3, e4, e5, e6, e7, e8} {
		if err != api.ErrNil {
			t.Errorf("call %d: %d", i, err)
		}
	}
}

// P22.8, P22.9, P22.10
func TestStepsOfMany(t *testing.T) {
	r := rand.New(rand.NewPCG(1, 1))
	done := map[string]int{}
	for range 20 {
		c := sizes
		c.Nodes = 40 + r.IntN(60)
		s, err := state.Load(sample.Tree(r.IntN, 2+r.IntN(2), c.Block), c, 3)
		if err == api.ErrLimit {
			continue
		}
		want := map[string]string{}
		for _, e := range tree.Entries(s.Tree(), api.Range{}) {
			want[e.Key] = e.Value
		}
		inSince := map[int]int{} // session: the picks at which it came in
		gone := map[int]int{}    // number: the pick at which it was welded away
		for pick := range 250 {
			who, before, words := 1+r.IntN(3), s.Tree(), s.Words()
			i := r.IntN(len(before.Nodes))
			at := r.IntN(3)
			var sent []api.Msg
			what, err := "", api.OK
			switch r.IntN(14) {
			case 0, 1, 2, 3:
				s.Try(i, who)
				s.Try(1, who)
			case 4:
				s.Give(i, who)
			case 5:
				k := sample.Key(r.IntN(sample.Keys))
				sent = []api.Msg{put(k, "sent")}
				what = "Send"
				_, err = s.Send(who, sent)
			case 6:
				what = "Grow"
				_, _, err = s.Grow(who)
			case 7, 8:
				what = "Split"
				_, err = s.Split(who, i, at)
			case 9:
				what = "Pour"
				_, err = s.Pour(who, i, at)
			case 10:
				what = "Weld"
				var x int
				if x, err = s.Weld(who, i, at); err == api.OK {
					gone[x] = pick
				}
			case 11:
				what = "Share"
				err = s.Share(who, i, at)
			case 12:
				what = "Sink"
				var x int
				if x, err = s.Sink(who); err == api.OK {
					gone[x] = pick
				}
			case 13:
				if s.Enter(who) == api.OK {
					inSince[who] = pick
				} else {
					s.Leave(who)
					delete(inSince, who)
				}
			}
			after := s.Tree()
			if what != "" && err == api.OK {
				done[what]++
				for _, m := range sent {
					want[m.Key] = m.Value
				}
			} else if !same(before, after) {
				t.Fatalf("%s: %d, and something is changed", what, err)
			}
			if f := shape.Faults(after, c); len(f) > 0 {
				t.Fatalf("%s: %v", what, f)
			}
			e := tree.Entries(after, api.Range{})
			if len(e) != len(want) {
				t.Fatalf("%s: %d entries, want %d", what, len(e), len(want))
			}
			for _, x := range e {
				if want[x.Key] != x.Value {
					t.Fatalf("%s: another meaning of %q", what, x.Key)
				}
			}
			for j := range before.Nodes {
				_, reached := tree.Span(before, j)
				if reached && words[j].Owner != who && !same(api.Tree{Nodes: before.Nodes[j : j+1]}, api.Tree{Nodes: after.Nodes[j : j+1]}) {
					t.Fatalf("%s changed %d, which %d does not hold", what, j, who)
				}
				if _, now := tree.Span(after, j); now && !reached {
					for _, since := range inSince {
						if p, ok := gone[j]; ok && since < p {
							t.Fatalf("%d was welded away at %d, and is taken again while somebody is in since %d", j, p, since)
						}
					}
				}
			}
		}
	}
	for _, what := range []string{"Send", "Grow", "Split", "Pour", "Weld", "Share"} {
		if done[what] == 0 {
			t.Error("never done:", what)
		}
	}
}
