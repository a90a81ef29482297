package get_test

import (
	"math"
	"math/rand/v2"
	"testing"

	"catchment/api"
	"catchment/flush"
	"catchment/get"
	"catchment/sample"
	"catchment/state"
	"catchment/tree"
	"catchment/word"
)

var sizes = sample.Sizes()

func move(what api.What, node, version int) api.Move {
	return api.Move{Session: 1, What: what, Node: node, Version: version}
}

func leafOf(l ...string) api.Node {
	n := api.Node{Kind: api.Leaf}
	for i := 0; i < len(l); i += 2 {
		n.Blocks = append(n.Blocks, []api.Entry{{Key: l[i], Value: l[i+1]}})
	}
	return n
}

// three is a state of three levels: the root 1 with 2 and 3, parted by m; 2 has the leaves 4 and 5, parted by d; 3 has the leaf 6.
func three(t *testing.T) *state.State {
	t.Helper()
	add := func(seq int, k string, n uint64) api.Msg {
		return api.Msg{Kind: api.Add, Seq: seq, Key: k, Delta: n}
	}
	s, err := state.Load(api.Tree{Nodes: []api.Node{
		{},
		{Kind: api.Inner, Pivots: []string{"m"}, Kids: []int{2, 3}, Msgs: []api.Msg{add(20, "a", 5), {Kind: api.Delete, Seq: 21, Key: "e"}}},
		{Kind: api.Inner, Pivots: []string{"d"}, Kids: []int{4, 5}, Msgs: []api.Msg{{Kind: api.Clear, Seq: 1, Key: "a", To: "c"}, add(2, "a", 7)}},
		{Kind: api.Inner, Kids: []int{6}},
		leafOf("a", "old", "c", "cc"), leafOf("e", "ee"), leafOf("x", "xx"),
	}}, sizes, 3)
	if err != api.OK {
		t.Fatal(err)
	}
	return s
}

// steps does steps of a get, and holds the moves against what they should be.
func steps(t *testing.T, g *get.Get, s *state.State, want ...api.Move) {
	t.Helper()
	for i, w := range want {
		before := g.Steps()
		if m := g.Step(s); m != w {
			t.Fatalf("step %d: %+v, want %+v", i, m, w)
		}
		if g.Steps() != before+1 {
			t.Fatal("Steps", g.Steps())
		}
	}
}

// bump changes the version of the root.
func bump(t *testing.T, s *state.State) {
	t.Helper()
	if s.Try(1, 2) != api.OK {
		t.Fatal("the root is held")
	}
	s.Send(2, []api.Msg{{Kind: api.Put, Key: "zz"}})
	s.Give(1, 2)
}

// P24.1, P24.2
func TestAlone(t *testing.T) {
	s := three(t)
	for _, x := range []struct {
		key   string
		want  api.Reply
		nodes []int
	}{
		{"a", api.Reply{Found: true, Value: word.Put(12)}, []int{1, 2, 4}}, {"c", api.Reply{Found: true, Value: "cc"}, []int{1, 2, 4}},
		{"e", api.Reply{}, []int{1, 2, 5}}, {"x", api.Reply{Found: true, Value: "xx"}, []int{1, 3, 6}}, {"", api.Reply{}, []int{1, 2, 4}},
	} {
		g := get.New(1, x.key, 0)
		for i, node := range x.nodes {
			if g.Done() || g.Effect() != map[bool]int{true: 2}[i >= 2] || g.Reply().Found || g.Reply().Err != api.OK {
				t.Errorf("Get of %q ahead of step %d: %d", x.key, i, g.Effect())
			}
			steps(t, g, s, move(api.Read, node, 0))
		}
		if r := g.Reply(); !g.Done() || r.Found != x.want.Found || r.Value != x.want.Value || r.Err != api.OK || g.Effect() != 2 || g.Steps() != 3 || g.Restarts() != 0 {
			t.Errorf("Get of %q: %+v, %d, %d, %d", x.key, r, g.Effect(), g.Steps(), g.Restarts())
		}
		if m := g.Step(s); m != move(api.Nothing, 0, 0) || g.Steps() != 3 {
			t.Errorf("a step of one that is done: %+v", m)
		}
	}
	n, _ := state.New(sizes, 1)
	g := get.New(1, "a", 0)
	steps(t, g, n, move(api.Read, 1, 0), move(api.Read, 2, 0))
	if !g.Done() || g.Reply().Found || g.Effect() != 2 {
		t.Error("the example")
	}
}

func TestBlocked(t *testing.T) {
	s := three(t)
	g := get.New(1, "c", 0)
	s.Try(1, 2)
	steps(t, g, s, move(api.Blocked, 1, 0), move(api.Blocked, 1, 0))
	s.Give(1, 2)
	steps(t, g, s, move(api.Read, 1, 0))
	s.Try(1, 2)
	steps(t, g, s, move(api.Blocked, 1, 0))
	s.Give(1, 2)
	s.Try(2, 3)
	steps(t, g, s, move(api.Blocked, 2, 0))
	s.Give(2, 3)
	steps(t, g, s, move(api.Read, 2, 0))
	if g.Effect() != 6 {
		t.Error("Effect", g.Effect())
	}
	s.Try(1, 2) // the root plays no part any more
	s.Try(4, 2)
	steps(t, g, s, move(api.Blocked, 4, 0))
	s.Give(4, 2)
	steps(t, g, s, move(api.Read, 4, 0))
	if !g.Done() || g.Reply().Value != "cc" || g.Effect() != 6 || g.Steps() != 8 || g.Restarts() != 0 {
		t.Error(g.Reply(), g.Effect(), g.Steps(), g.Restarts())
	}
}

func TestRestarts(t *testing.T) {
	s := three(t)
	g := get.New(1, "c", 1)
	steps(t, g, s, move(api.Read, 1, 0))
	bump(t, s)
	steps(t, g, s, move(api.Failed, 1, 0))
	if g.Restarts() != 1 || g.Done() || g.Effect() != 0 {
		t.Error(g.Restarts(), g.Done())
	}
	steps(t, g, s, move(api.Read, 1, 1), move(api.Read, 2, 0))
	if g.Effect() != 4 {
		t.Error("Effect", g.Effect())
	}
	f := g.Fork()
	// a pour into 2 changes it: what took effect is taken back
	s.Try(1, 2)
	s.Try(2, 2)
	if n, err := s.Pour(2, 1, 0); n == 0 || err != api.OK {
		t.Fatal(n, err)
	}
	s.Give(2, 2)
	steps(t, g, s, move(api.Failed, 2, 0))
	if !g.Done() || g.Restarts() != 2 || g.Effect() != 0 || g.Steps() != 5 {
		t.Error(g.Restarts(), g.Done(), g.Effect(), g.Steps())
	}
	if r := g.Reply(); r.Err != api.ErrBusy || r.Found || r.Value != "" {
		t.Error(r)
	}
	if m := g.Step(s); m != move(api.Nothing, 0, 0) || g.Steps() != 5 {
		t.Error("a step of one that is done", m)
	}
	if f.Done() || f.Effect() != 4 || f.Steps() != 4 || f.Restarts() != 1 {
		t.Error("a get changed its fork")
	}
	for _, budget := range []int{0, -1, math.MinInt} {
		g := get.New(1, "c", budget)
		steps(t, g, s, move(api.Blocked, 1, 0))
	}
}

func TestNoBudget(t *testing.T) {
	for _, budget := range []int{0, -1, math.MinInt} {
		s := three(t)
		g := get.New(1, "c", budget)
		steps(t, g, s, move(api.Read, 1, 0))
		bump(t, s)
		steps(t, g, s, move(api.Failed, 1, 0))
		if !g.Done() || g.Reply().Err != api.ErrBusy {
			t.Error(budget, g.Done())
		}
	}
	s := three(t)
	g := get.New(1, "c", math.MaxInt)
	for i := range 50 {
		steps(t, g, s, move(api.Read, 1, i))
		bump(t, s)
		steps(t, g, s, move(api.Failed, 1, 0))
	}
	if g.Done() || g.Restarts() != 50 {
		t.Error(g.Restarts())
	}
}

func TestGoneNode(t *testing.T) {
	s := three(t)
	g := get.New(1, "a", 3)
	steps(t, g, s, move(api.Read, 1, 0), move(api.Read, 2, 0))
	for _, i := range []int{1, 2, 3} {
		s.Try(i, 2)
	}
	if n, err := s.Weld(2, 1, 0); n != 3 || err != api.OK {
		t.Fatal(n, err)
	}
	if n, err := s.Sink(2); n != 2 || err != api.OK {
		t.Fatal(n, err)
	}
	s.Give(1, 2)
	steps(t, g, s, move(api.Failed, 2, 0), move(api.Read, 1, 1), move(api.Read, 4, 0))
	if r := g.Reply(); r.Value != word.Put(12) || !r.Found || g.Effect() != 5 {
		t.Error(r, g.Effect())
	}
}

func TestNil(t *testing.T) {
	var g *get.Get
	if g.Step(three(t)) != (api.Move{}) || !g.Done() || g.Reply().Err != api.ErrNil || g.Effect() != 0 || g.Steps() != 0 || g.Restarts() != 0 || g.Fork() != nil {
		t.Error("nil")
	}
	h := get.New(1, "a", 2)
	for n := 0; !h.Done(); n++ {
		if h.Step(nil); n > 100 {
			t.Fatal("of a nil state it does not end")
		}
	}
}

// P24.3, P24.4
func TestBesideWriters(t *testing.T) {
	r := rand.New(rand.NewPCG(1, 1))
	answered, failed, blocked := 0, 0, 0
	for range 60 {
		c := sizes
		c.Buffer = r.IntN(50)
		s, err := state.Load(sample.Tree(r.IntN, 2+r.IntN(3), c.Block), c, 5)
		if err != api.OK {
			continue
		}
		gets := map[int]*get.Get{}
		keys, meant, read := map[int]string{}, map[int]api.Reply{}, map[int]map[int]int{}
		flushes := map[int]*flush.Flush{}
		for range 600 {
			who := 1 + r.IntN(5)
			if who > 3 { // writers
				if f := flushes[who]; f != nil {
					if f.Step(s); f.Done() {
						delete(flushes, who)
					}
				} else if s.Try(1, who) == api.OK {
					s.Send(who, []api.Msg{{Kind: api.Add, Key: sample.Key(r.IntN(sample.Keys)), Delta: 1}, {Kind: api.Put, Key: sample.Key(r.IntN(sample.Keys)), Value: "v"}, {Kind: api.Delete, Key: sample.Key(r.IntN(sample.Keys))}})
					flushes[who] = flush.New(who)
				}
				continue
			}
			g := gets[who]
			if g == nil {
				s.Enter(who)
				keys[who] = sample.Key(r.IntN(sample.Keys))
				g = get.New(who, keys[who], 3)
				gets[who], read[who] = g, map[int]int{}
			}
			words := s.Words()
			m := g.Step(s)
			switch m.What {
			case api.Read:
				read[who][m.Node] = m.Version
			case api.Failed:
				failed++
				if w := words[m.Node]; !w.Gone && w.Version == read[who][m.Node] {
					t.Fatalf("failed at %d, which has the version it was read with", m.Node)
				}
			case api.Blocked:
				blocked++
				if w := words[m.Node]; w.Owner == 0 || w.Owner == who {
					t.Fatalf("blocked at %d, whose owner is %d", m.Node, w.Owner)
				}
			}
			if g.Effect() == g.Steps() {
				v, is := tree.Get(s.Tree(), keys[who])
				meant[who] = api.Reply{Found: is, Value: v}
			}
			if !g.Done() {
				continue
			}
			answered++
			got, want := g.Reply(), meant[who]
			if got.Err == api.OK && (got.Found != want.Found || got.Value != want.Value) {
				t.Fatalf("%q: %+v, want %+v", keys[who], got, want)
			}
			if (got.Err == api.OK) == (g.Effect() == 0) {
				t.Fatal("Effect", g.Effect(), got.Err)
			}
			s.Leave(who)
			delete(gets, who)
		}
	}
	if answered < 500 || failed < 50 || blocked < 50 {
		t.Error(answered, failed, blocked)
	}
}
