package flush_test

import (
	"math/rand/v2"
	"slices"
	"strings"
	"testing"

	"catchment/api"
	"catchment/flush"
	"catchment/leaf"
	"catchment/plan"
	"catchment/sample"
	"catchment/shape"
	"catchment/state"
	"catchment/tree"
)

var sizes = api.Config{Key: 8, Value: 16, Fanout: 4, Buffer: 40, Leaf: 4, Block: 2, Nodes: 100, Budget: 1, Chunk: 5}

func msgs(kind api.Kind, seq int, keys string) []api.Msg {
	var l []api.Msg
	for i, k := range strings.Split(keys, "") {
		l = append(l, api.Msg{Kind: kind, Seq: seq + i, Key: k})
	}
	return l
}

// inner makes an inner node of its kids and pivots by turns.
func inner(l []api.Msg, turns ...any) api.Node {
	n := api.Node{Kind: api.Inner, Msgs: l}
	for _, x := range turns {
		switch x := x.(type) {
		case int:
			n.Kids = append(n.Kids, x)
		case string:
			n.Pivots = append(n.Pivots, x)
		}
	}
	return n
}

func leafOf(keys string) api.Node {
	n := api.Node{Kind: api.Leaf}
	for _, k := range strings.Split(keys, "") {
		n.Blocks = append(n.Blocks, []api.Entry{{Key: k}})
	}
	return n
}

func keys(n api.Node) string {
	s := ""
	for _, e := range leaf.Entries(n.Blocks) {
		s += e.Key
	}
	return s
}

func load(t *testing.T, sessions int, c api.Config, n ...api.Node) *state.State {
	t.Helper()
	s, err := state.Load(api.Tree{Nodes: append([]api.Node{{}}, n...)}, c, sessions)
	if err != api.OK {
		t.Fatal(err)
	}
	return s
}

// start lets a session take the root, and begin a flush.
func start(t *testing.T, s *state.State, who int) *flush.Flush {
	t.Helper()
	if err := s.Try(1, who); err != api.OK {
		t.Fatal(err)
	}
	return flush.New(who)
}

func move(what api.What, node, version int) api.Move {
	return api.Move{Session: 1, What: what, Node: node, Version: version}
}

// runs does all steps of a flush, and holds the moves against what they should be.
func runs(t *testing.T, what string, s *state.State, f *flush.Flush, want ...api.Move) {
	t.Helper()
	var got []api.Move
	for range 100 {
		if f.Done() {
			break
		}
		got = append(got, f.Step(s))
	}
	if !slices.Equal(got, want) {
		t.Fatalf("%s:\n%+v, want\n%+v", what, got, want)
	}
	if !f.Done() || len(f.Holds()) != 0 {
		t.Fatalf("%s: it is done, and holds %v", what, f.Holds())
	}
	for i, w := range s.Words() {
		if w.Owner != 0 {
			t.Fatalf("%s: %d is held", what, i)
		}
	}
	if m := f.Step(s); m != (api.Move{Session: 1}) {
		t.Fatalf("%s: a step of a flush that is done: %+v", what, m)
	}
}

func TestPoursAndRests(t *testing.T) {
	s := load(t, 1, sizes, inner(msgs(api.Put, 1, "abcdefg"), 2), leafOf(""))
	f := start(t, s, 1)
	if f.Done() || f.Err() != api.OK || !slices.Equal(f.Holds(), []int{1}) {
		t.Error("a new flush", f.Holds())
	}
	runs(t, "the example", s, f, move(api.Held, 2, 0), move(api.Poured, 2, 0), move(api.Bumped, 2, 1), move(api.Bumped, 1, 1))
	if f.Err() != api.OK {
		t.Error(f.Err())
	}
	n, _ := s.Node(2)
	if keys(n) != "abcdefg" {
		t.Error(keys(n))
	}
	s = load(t, 1, sizes, inner(msgs(api.Put, 1, "a"), 2), leafOf(""))
	runs(t, "nothing to do", s, start(t, s, 1), move(api.Freed, 1, 0))
}

func TestGrows(t *testing.T) {
	s := load(t, 1, sizes, inner(msgs(api.Put, 1, "abc"), 2, "c", 3, "f", 4, "k", 5, "q", 6), leafOf(""), leafOf(""), leafOf(""), leafOf(""), leafOf(""))
	runs(t, "a root that is Over", s, start(t, s, 1), move(api.Grown, 1, 0), move(api.Bumped, 1, 1))
	if tree.Height(s.Tree()) != 3 {
		t.Error("Height")
	}
	few := sizes
	few.Nodes = 7
	s = load(t, 1, few, inner(msgs(api.Put, 1, "abc"), 2, "c", 3, "f", 4, "k", 5, "q", 6), leafOf(""), leafOf(""), leafOf(""), leafOf(""), leafOf(""))
	f := start(t, s, 1)
	full := move(api.Nothing, 0, 0)
	full.Err = api.ErrFull
	runs(t, "without numbers", s, f, full, move(api.Freed, 1, 0))
	if f.Err() != api.ErrFull {
		t.Error(f.Err())
	}
}

func TestSplits(t *testing.T) {
	s := load(t, 1, sizes, inner(msgs(api.Put, 1, "xyz"), 2), leafOf("abcdefghij"))
	runs(t, "a leaf that is Over twice", s, start(t, s, 1),
		move(api.Held, 2, 0), move(api.Cut, 2, 0), move(api.Bumped, 2, 1),
		move(api.Held, 3, 0), move(api.Cut, 3, 0), move(api.Bumped, 3, 1),
		move(api.Held, 4, 0), move(api.Poured, 4, 0), move(api.Bumped, 4, 1), move(api.Bumped, 1, 1))
	few := sizes
	few.Nodes = 3
	s = load(t, 1, few, inner(msgs(api.Put, 1, "xyz"), 2), leafOf("abcdefghij"))
	f := start(t, s, 1)
	full := move(api.Nothing, 0, 0)
	full.Err = api.ErrFull
	runs(t, "with one number", s, f, move(api.Held, 2, 0), move(api.Cut, 2, 0), move(api.Bumped, 2, 1), move(api.Held, 3, 0), full, move(api.Freed, 3, 0), move(api.Bumped, 1, 1))
	if f.Err() != api.ErrFull {
		t.Error(f.Err())
	}
}

func TestGoesDeeper(t *testing.T) {
	s := load(t, 1, sizes, inner(msgs(api.Put, 9, "abx"), 2, "m", 3), inner(msgs(api.Put, 1, "c"), 4, "b", 5), inner(nil, 6, "p", 7), leafOf("a"), leafOf("bc"), leafOf("mn"), leafOf("pq"))
	f := start(t, s, 1)
	for range 2 {
		f.Step(s)
	}
	if !slices.Equal(f.Holds(), []int{1, 2}) {
		t.Error(f.Holds())
	}
	runs(t, "deeper", s, f, move(api.Bumped, 1, 1), move(api.Held, 5, 0), move(api.Poured, 5, 0), move(api.Bumped, 5, 1), move(api.Bumped, 2, 1))
}

func TestMends(t *testing.T) {
	c := sizes
	c.Buffer = 30
	s := load(t, 1, c, inner(msgs(api.Delete, 1, "abc"), 2, "m", 3, "t", 4), leafOf("abc"), leafOf("m"), leafOf("tu"))
	runs(t, "welds with the next one", s, start(t, s, 1), move(api.Held, 2, 0), move(api.Poured, 2, 0), move(api.Held, 3, 0), move(api.Welded, 2, 0), move(api.Bumped, 2, 1), move(api.Bumped, 1, 1))
	if !slices.Equal(s.Waits(), []int{3}) {
		t.Error(s.Waits())
	}
	s = load(t, 1, c, inner(msgs(api.Delete, 1, "mno"), 2, "m", 3, "t", 4), leafOf("ab"), leafOf("mn"), leafOf("tu"))
	runs(t, "welds with the one ahead", s, start(t, s, 1), move(api.Held, 3, 0), move(api.Poured, 3, 0), move(api.Held, 2, 0), move(api.Welded, 2, 0), move(api.Bumped, 2, 1), move(api.Bumped, 1, 1))
	s = load(t, 1, c, inner(msgs(api.Delete, 1, "mno"), 2, "m", 3, "t", 4), leafOf("abcd"), leafOf("mn"), leafOf("tu"))
	runs(t, "shares", s, start(t, s, 1), move(api.Held, 3, 0), move(api.Poured, 3, 0), move(api.Held, 2, 0), move(api.Shared, 2, 0), move(api.Bumped, 2, 1), move(api.Bumped, 3, 1), move(api.Bumped, 1, 1))
	s = load(t, 1, c, inner(msgs(api.Delete, 1, "abc"), 2), leafOf("abc"))
	runs(t, "alone", s, start(t, s, 1), move(api.Held, 2, 0), move(api.Poured, 2, 0), move(api.Bumped, 2, 1), move(api.Bumped, 1, 1))
}

func TestSinks(t *testing.T) {
	c := sizes
	c.Buffer = 60
	s := load(t, 1, c, inner(msgs(api.Put, 9, "abnc"), 2, "m", 3), inner(nil, 4), inner(nil, 5), leafOf("a"), leafOf("m"))
	f := start(t, s, 1)
	runs(t, "sinks", s, f, move(api.Held, 2, 0), move(api.Poured, 2, 0), move(api.Held, 3, 0), move(api.Welded, 2, 0), move(api.Sunk, 1, 0), move(api.Bumped, 1, 1))
	if tree.Height(s.Tree()) != 2 || !slices.Equal(s.Waits(), []int{3, 2}) {
		t.Error(s.Waits())
	}
}

func TestBlocked(t *testing.T) {
	c := sizes
	c.Buffer = 30
	s := load(t, 2, c, inner(msgs(api.Delete, 1, "abc"), 2, "m", 3, "t", 4), leafOf("abc"), leafOf("m"), leafOf("tu"))
	s.Try(2, 2)
	s.Try(3, 2)
	f := start(t, s, 1)
	for range 3 {
		if m := f.Step(s); m != move(api.Blocked, 2, 0) || !slices.Equal(f.Holds(), []int{1}) {
			t.Fatal(m)
		}
	}
	s.Give(2, 2)
	for i, want := range []api.Move{move(api.Held, 2, 0), move(api.Poured, 2, 0), move(api.Blocked, 3, 0), move(api.Blocked, 3, 0)} {
		if m := f.Step(s); m != want {
			t.Fatal(i, m)
		}
	}
	s.Give(3, 2)
	g, z := f.Fork(), s.Fork()
	if m := f.Step(s); m != move(api.Held, 3, 0) || !slices.Equal(f.Holds(), []int{1, 2, 3}) {
		t.Fatal(m, f.Holds())
	}
	if !slices.Equal(g.Holds(), []int{1, 2}) {
		t.Error("a flush changed its fork")
	}
	f.Holds()[0] = 99
	runs(t, "a fork", z, g, move(api.Held, 3, 0), move(api.Welded, 2, 0), move(api.Bumped, 2, 1), move(api.Bumped, 1, 1))
	runs(t, "the flush itself", s, f, move(api.Welded, 2, 0), move(api.Bumped, 2, 1), move(api.Bumped, 1, 1))
}

// P23.1
func TestNotTheOwner(t *testing.T) {
	s := load(t, 2, sizes, inner(msgs(api.Put, 1, "abcdefg"), 2), leafOf(""))
	for _, held := range []int{0, 2} {
		if held > 0 {
			s.Try(1, held)
		}
		for _, who := range []int{1, 0, -1, 99} {
			f := flush.New(who)
			if m := f.Step(s); m != (api.Move{Session: who, Err: api.ErrOwner}) || !f.Done() || f.Err() != api.ErrOwner || len(f.Holds()) != 0 {
				t.Error(who, m, f.Done(), f.Err())
			}
			if m := f.Step(s); m != (api.Move{Session: who}) {
				t.Error("a step of one that is done", m)
			}
		}
	}
	var f *flush.Flush
	if f.Step(s) != (api.Move{}) || !f.Done() || f.Err() != api.ErrNil || len(f.Holds()) != 0 || f.Fork() != nil {
		t.Error("nil")
	}
	if m := flush.New(1).Step(nil); m.What != api.Nothing {
		t.Error("a nil state", m)
	}
}

// heavy is a state of a sample whose root has many messages.
func heavy(r *rand.Rand, sessions int) (*state.State, api.Config) {
	c := sample.Sizes()
	c.Buffer = r.IntN(60)
	for {
		x := sample.Tree(r.IntN, 2+r.IntN(3), c.Block)
		for i := range r.IntN(20) {
			m := api.Msg{Kind: api.Put, Seq: 100000 + i, Key: sample.Key(r.IntN(sample.Keys))}
			if r.IntN(3) == 0 {
				m.Kind = api.Delete
			}
			if r.IntN(8) == 0 {
				m = api.Msg{Kind: api.Clear, Seq: m.Seq, Key: sample.Key(r.IntN(30)), To: sample.Key(30 + r.IntN(30))}
			}
			x.Nodes[1].Msgs = append(x.Nodes[1].Msgs, m)
		}
		if s, err := state.Load(x, c, sessions); err == api.OK {
			return s, c
		}
	}
}

func same(a, b api.Tree) bool {
	return slices.EqualFunc(a.Nodes, b.Nodes, func(x, y api.Node) bool {
		return x.Kind == y.Kind && slices.Equal(x.Pivots, y.Pivots) && slices.Equal(x.Kids, y.Kids) && slices.Equal(x.Msgs, y.Msgs) &&
			slices.EqualFunc(x.Blocks, y.Blocks, slices.Equal[[]api.Entry])
	})
}

// P23.2
func TestDoesWhatAPassDoes(t *testing.T) {
	r := rand.New(rand.NewPCG(1, 1))
	for range 300 {
		s, c := heavy(r, 1)
		before := s.Tree()
		var fresh []int
		for i := 2; i <= c.Nodes; i++ {
			if _, reached := tree.Span(before, i); !reached {
				fresh = append(fresh, i)
			}
		}
		want, _, freed, err := plan.Pass(before, c, fresh...)
		f := start(t, s, 1)
		for n := 0; !f.Done(); n++ {
			if f.Step(s); n > 1000 {
				t.Fatal("it does not end")
			}
		}
		if f.Err() != err || err == api.OK && (!same(s.Tree(), want) || !slices.Equal(s.Waits(), freed)) {
			t.Fatalf("%d, want %d; waits %v, want %v", f.Err(), err, s.Waits(), freed)
		}
		for i, w := range s.Words() {
			if w.Owner != 0 {
				t.Fatal("it holds", i)
			}
		}
	}
}

// P23.3, P23.4, P23.5
func TestManyFlushes(t *testing.T) {
	r := rand.New(rand.NewPCG(2, 2))
	seen := map[api.What]int{}
	for range 60 {
		s, c := heavy(r, 4)
		want := tree.Entries(s.Tree(), api.Range{})
		flushes, left := map[int]*flush.Flush{}, 25
		for steps := 0; left > 0 || len(flushes) > 0; steps++ {
			if steps > 20000 {
				t.Fatal("they do not end")
			}
			who := 1 + r.IntN(4)
			f := flushes[who]
			if f == nil {
				if left > 0 && s.Try(1, who) == api.OK {
					var l []api.Msg
					for range r.IntN(12) {
						l = append(l, api.Msg{Kind: api.Put, Key: sample.Key(r.IntN(sample.Keys)), Value: "sent"})
					}
					if len(l) > 0 {
						s.Send(who, l)
					}
					want = tree.Entries(s.Tree(), api.Range{})
					flushes[who] = flush.New(who)
					left--
				}
				continue
			}
			words := s.Words()
			m := f.Step(s)
			seen[m.What]++
			if m.Session != who || m.Err != api.OK && m.Err != api.ErrFull {
				t.Fatalf("%+v", m)
			}
			if m.What == api.Blocked && (words[m.Node].Owner == 0 || words[m.Node].Owner == who) {
				t.Fatalf("blocked at %d, whose owner is %d", m.Node, words[m.Node].Owner)
			}
			if len(f.Holds()) > 3 {
				t.Fatal(f.Holds())
			}
			for _, i := range f.Holds() {
				if s.Words()[i].Owner != who {
					t.Fatalf("%d says that it holds %d", who, i)
				}
			}
			if f.Done() {
				delete(flushes, who)
			}
			x := s.Tree()
			if faults := shape.Faults(x, c); len(faults) > 0 || !slices.Equal(tree.Entries(x, api.Range{}), want) {
				t.Fatalf("%+v: %v", m, faults)
			}
		}
		for i, w := range s.Words() {
			if w.Owner != 0 {
				t.Fatal(i, "is held in the end")
			}
		}
	}
	for _, w := range []api.What{api.Held, api.Blocked, api.Freed, api.Bumped, api.Poured, api.Cut, api.Grown, api.Welded, api.Shared} {
		if seen[w] == 0 {
			t.Error("never seen:", w)
		}
	}
}
