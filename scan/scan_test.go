package scan_test

import (
	"math"
	"math/rand/v2"
	"slices"
	"testing"

	"catchment/api"
	"catchment/sample"
	"catchment/scan"
	"catchment/state"
	"catchment/tree"
	"catchment/word"
	"catchment/write"
)

var sizes = sample.Sizes()

func move(what api.What, node, version int) api.Move {
	return api.Move{Session: 1, What: what, Node: node, Version: version}
}

func leafOf(keys ...string) api.Node {
	n := api.Node{Kind: api.Leaf}
	for _, k := range keys {
		n.Blocks = append(n.Blocks, []api.Entry{{Key: k, Value: k + k}})
	}
	return n
}

// three is a state of three levels: the root 1 with 2 and 3, parted by m; 2 has the leaves 4 and 5, parted by d; 3 has the leaf 6.
func three(t *testing.T) *state.State {
	t.Helper()
	add := func(seq int, k string, n uint64) api.Msg {
		return api.Msg{Kind: api.Add, Seq: seq, Key: k, Delta: n}
	}
	s, err := state.Load(api.Tree{Nodes: []api.Node{
		{},
		{Kind: api.Inner, Pivots: []string{"m"}, Kids: []int{2, 3}, Msgs: []api.Msg{add(20, "a", 5), {Kind: api.Delete, Seq: 21, Key: "e"}}},
		{Kind: api.Inner, Pivots: []string{"d"}, Kids: []int{4, 5}, Msgs: []api.Msg{{Kind: api.Clear, Seq: 1, Key: "a", To: "c"}, add(2, "a", 7)}},
		{Kind: api.Inner, Kids: []int{6}},
		leafOf("a", "c"), leafOf("e", "f"), leafOf("x"),
	}}, sizes, 3)
	if err != api.OK {
		t.Fatal(err)
	}
	return s
}

var all = []api.Entry{{Key: "a", Value: word.Put(12)}, {Key: "c", Value: "cc"}, {Key: "f", Value: "ff"}, {Key: "x", Value: "xx"}}

func steps(t *testing.T, c *scan.Scan, s *state.State, want ...api.Move) {
	t.Helper()
	for i, w := range want {
		before := c.Steps()
		if r := c.Reply(); c.Done() || r.Err != api.OK || len(r.Entries) > 0 {
			t.Fatalf("ahead of step %d: done %v, %+v", i, c.Done(), r)
		}
		if m := c.Step(s); m != w {
			t.Fatalf("step %d: %+v, want %+v", i, m, w)
		}
		if c.Steps() != before+1 {
			t.Fatal("Steps", c.Steps())
		}
	}
}

// P26.1, P26.2
func TestAlone(t *testing.T) {
	s := three(t)
	for i, x := range []struct {
		r     api.Range
		n     int
		nodes []int
		want  []api.Entry
	}{
		{api.Range{}, 9, []int{1, 2, 4, 5, 3, 6}, all},
		{api.Range{}, 4, []int{1, 2, 4, 5, 3, 6}, all},
		{api.Range{}, 3, []int{1, 2, 4, 5}, all[:3]},
		{api.Range{}, 2, []int{1, 2, 4}, all[:2]},
		{api.Range{}, 1, []int{1, 2, 4}, all[:1]},
		{api.Range{}, 0, []int{1}, nil},
		{api.Range{}, -5, []int{1}, nil},
		{api.Range{}, math.MinInt, []int{1}, nil},
		{api.Range{}, math.MaxInt, []int{1, 2, 4, 5, 3, 6}, all},
		{api.Range{From: "d", To: "m"}, 9, []int{1, 2, 5}, all[2:3]},
		{api.Range{From: "c\x00", To: "f"}, 9, []int{1, 2, 4, 5}, nil},
		{api.Range{From: "f"}, 9, []int{1, 2, 5, 3, 6}, all[2:]},
		{api.Range{To: "c"}, 9, []int{1, 2, 4}, all[:1]},
		{api.Range{From: "m"}, 1, []int{1, 3, 6}, all[3:]},
		{api.Range{From: "c", To: "c"}, 9, []int{1}, nil},
		{api.Range{From: "d", To: "c"}, 9, []int{1}, nil},
	} {
		c := scan.New(1, x.r, x.n, 0)
		for _, n := range x.nodes {
			if c.Effect() != 0 {
				t.Errorf("case %d: Effect %d", i, c.Effect())
			}
			steps(t, c, s, move(api.Read, n, 0))
		}
		for k, n := range x.nodes {
			if c.Effect() != len(x.nodes) || !slices.Equal(c.Nodes(), x.nodes) {
				t.Errorf("case %d, check %d: Effect %d, Nodes %v", i, k, c.Effect(), c.Nodes())
			}
			steps(t, c, s, move(api.Checked, n, 0))
		}
		r := c.Reply()
		if !c.Done() || !slices.Equal(r.Entries, x.want) || r.Err != api.OK || c.Restarts() != 0 || c.Effect() != len(x.nodes) || c.Steps() != 2*len(x.nodes) {
			t.Errorf("case %d: %+v", i, r)
		}
		if m := c.Step(s); m != move(api.Nothing, 0, 0) || c.Steps() != 2*len(x.nodes) {
			t.Errorf("case %d: a step of one that is done: %+v", i, m)
		}
		if len(r.Entries) > 0 {
			r.Entries[0].Key, c.Nodes()[0] = "spoilt", 9
			if c.Reply().Entries[0].Key == "spoilt" || c.Nodes()[0] == 9 {
				t.Errorf("case %d: what is told is kept", i)
			}
		}
	}
}

func TestBlocked(t *testing.T) {
	s := three(t)
	c := scan.New(1, api.Range{From: "m"}, 9, 0)
	s.Try(1, 2)
	steps(t, c, s, move(api.Blocked, 1, 0), move(api.Blocked, 1, 0))
	s.Give(1, 2)
	steps(t, c, s, move(api.Read, 1, 0))
	s.Try(1, 2) // what was read is asked only in the end
	s.Try(3, 3)
	steps(t, c, s, move(api.Blocked, 3, 0))
	s.Give(3, 3)
	steps(t, c, s, move(api.Read, 3, 0), move(api.Read, 6, 0))
	if c.Effect() != 6 {
		t.Error("Effect", c.Effect())
	}
	steps(t, c, s, move(api.Blocked, 1, 0), move(api.Blocked, 1, 0))
	f := c.Fork()
	s.Give(1, 2)
	steps(t, c, s, move(api.Checked, 1, 0))
	s.Try(3, 2)
	steps(t, c, s, move(api.Blocked, 3, 0))
	s.Give(3, 2)
	steps(t, c, s, move(api.Checked, 3, 0), move(api.Checked, 6, 0))
	if !c.Done() || len(c.Reply().Entries) != 1 || c.Effect() != 6 || c.Restarts() != 0 {
		t.Error(c.Reply(), c.Effect())
	}
	if f.Done() || f.Steps() != 8 {
		t.Error("a scan changed its fork")
	}
	steps(t, f, s, move(api.Checked, 1, 0), move(api.Checked, 3, 0), move(api.Checked, 6, 0))
}

// bump sends something, and so changes the root's version.
func bump(t *testing.T, s *state.State, k string) {
	t.Helper()
	if s.Try(1, 2) != api.OK {
		t.Fatal("the root is held")
	}
	s.Send(2, []api.Msg{{Kind: api.Put, Key: k, Value: "new"}})
	s.Give(1, 2)
}

func TestRestarts(t *testing.T) {
	s := three(t)
	c := scan.New(1, api.Range{From: "m"}, 9, 1)
	steps(t, c, s, move(api.Read, 1, 0), move(api.Read, 3, 0))
	bump(t, s, "y")
	steps(t, c, s, move(api.Read, 6, 0))
	if c.Effect() != 3 {
		t.Error("Effect", c.Effect())
	}
	steps(t, c, s, move(api.Failed, 1, 0))
	if c.Effect() != 0 || c.Restarts() != 1 || len(c.Nodes()) != 0 {
		t.Error("behind a restart", c.Effect(), c.Restarts(), c.Nodes())
	}
	steps(t, c, s, move(api.Read, 1, 1), move(api.Read, 3, 0), move(api.Read, 6, 0), move(api.Checked, 1, 1))
	f := c.Fork()
	steps(t, f, s, move(api.Checked, 3, 0), move(api.Checked, 6, 0))
	if e := f.Reply().Entries; len(e) != 2 || e[1] != (api.Entry{Key: "y", Value: "new"}) || f.Effect() != 7 {
		t.Error(e, f.Effect())
	}
	s.Try(1, 2)
	s.Try(3, 2)
	if n, err := s.Pour(2, 1, 1); n == 0 || err != api.OK {
		t.Fatal(n, err)
	}
	s.Give(3, 2)
	steps(t, c, s, move(api.Failed, 3, 0))
	if r := c.Reply(); !c.Done() || r.Err != api.ErrBusy || len(r.Entries) > 0 || c.Effect() != 0 || c.Restarts() != 2 || len(c.Nodes()) != 0 {
		t.Error(r, c.Effect(), c.Restarts())
	}
	if m := c.Step(s); m != move(api.Nothing, 0, 0) {
		t.Error(m)
	}
	for _, budget := range []int{0, -1, math.MinInt} {
		s := three(t)
		c := scan.New(1, api.Range{}, 0, budget)
		steps(t, c, s, move(api.Read, 1, 0))
		bump(t, s, "y")
		steps(t, c, s, move(api.Failed, 1, 0))
		if !c.Done() || c.Reply().Err != api.ErrBusy {
			t.Error(budget, c.Done())
		}
	}
}

func TestForkGoesOnByItself(t *testing.T) {
	s := three(t)
	c := scan.New(1, api.Range{}, 9, 1)
	steps(t, c, s, move(api.Read, 1, 0), move(api.Read, 2, 0), move(api.Read, 4, 0))
	f, z := c.Fork(), s.Fork()
	// where the fork goes on 5 has another version, and another value of f
	z.Try(2, 2)
	z.Try(5, 2)
	z.Try(1, 2)
	z.Send(2, []api.Msg{{Kind: api.Put, Key: "f", Value: "new"}})
	z.Pour(2, 1, 0)
	z.Pour(2, 2, 1)
	z.Give(5, 2)
	steps(t, c, s, move(api.Read, 5, 0))
	steps(t, f, z, move(api.Read, 5, 1), move(api.Read, 3, 0), move(api.Read, 6, 0))
	steps(t, c, s, move(api.Read, 3, 0), move(api.Read, 6, 0))
	for !c.Done() {
		if m := c.Step(s); m.What != api.Checked {
			t.Fatal(m)
		}
	}
	if !slices.Equal(c.Reply().Entries, all) || !slices.Equal(c.Nodes(), []int{1, 2, 4, 5, 3, 6}) {
		t.Error("a fork changed the scan", c.Reply())
	}
	steps(t, f, z, move(api.Blocked, 1, 0))
}

func TestGoneNode(t *testing.T) {
	s := three(t)
	c := scan.New(1, api.Range{}, 9, 1)
	steps(t, c, s, move(api.Read, 1, 0))
	for _, i := range []int{1, 2, 3} {
		s.Try(i, 2)
	}
	s.Weld(2, 1, 0)
	s.Sink(2)
	s.Give(1, 2)
	steps(t, c, s, move(api.Failed, 2, 0))
	for _, i := range []int{1, 4, 5, 6} {
		steps(t, c, s, move(api.Read, i, map[bool]int{true: 1}[i == 1]))
	}
	for !c.Done() {
		c.Step(s)
	}
	if !slices.Equal(c.Reply().Entries, all) {
		t.Error(c.Reply())
	}
}

func TestNil(t *testing.T) {
	var c *scan.Scan
	if c.Step(three(t)) != (api.Move{}) || !c.Done() || c.Reply().Err != api.ErrNil || c.Effect() != 0 || c.Steps() != 0 || c.Restarts() != 0 || len(c.Nodes()) != 0 || c.Fork() != nil {
		t.Error("nil")
	}
	h := scan.New(1, api.Range{}, 5, 2)
	for n := 0; !h.Done(); n++ {
		if h.Step(nil); n > 100 {
			t.Fatal("of a nil state it does not end")
		}
	}
}

// P26.3, P26.4
func TestBesideWriters(t *testing.T) {
	r := rand.New(rand.NewPCG(1, 1))
	answered, failed, blocked := 0, 0, 0
	for range 80 {
		c := sizes
		c.Buffer, c.Nodes = r.IntN(50), 120
		s, err := state.Load(sample.Tree(r.IntN, 2+r.IntN(3), c.Block), c, 5)
		if err != api.OK {
			continue
		}
		type one struct {
			*scan.Scan
			r     api.Range
			n     int
			want  []api.Entry
			read  map[int][]int
			steps int
		}
		scans, writes := map[int]*one{}, map[int]*write.Write{}
		for range 600 {
			who := 1 + r.IntN(5)
			if r.IntN(4) == 0 {
				who = 1 + r.IntN(3)
			}
			if who > 3 {
				w := writes[who]
				if w == nil {
					w = write.New(who, []api.Msg{{Kind: api.Put, Key: sample.Key(r.IntN(sample.Keys)), Value: "v"}, {Kind: api.Delete, Key: sample.Key(r.IntN(sample.Keys))}})
					writes[who] = w
				}
				if w.Step(s); w.Done() {
					delete(writes, who)
				}
				continue
			}
			g := scans[who]
			if g == nil {
				s.Enter(who)
				g = &one{r: api.Range{From: sample.Key(r.IntN(30)), To: sample.Key(30 + r.IntN(30))}, n: r.IntN(9), read: map[int][]int{}}
				g.Scan = scan.New(who, g.r, g.n, 2)
				scans[who] = g
			}
			words := s.Words()
			m := g.Step(s)
			g.steps++
			switch m.What {
			case api.Read:
				g.read[m.Node] = append(g.read[m.Node], m.Version)
			case api.Failed:
				failed++
				if w, v := words[m.Node], g.read[m.Node]; !w.Gone && len(v) > 0 && w.Version == v[len(v)-1] {
					t.Fatalf("failed at %d, which has the version it was read with", m.Node)
				}
			case api.Blocked:
				g.steps--
				blocked++
				if w := words[m.Node]; w.Owner == 0 || w.Owner == who {
					t.Fatalf("blocked at %d, whose owner is %d", m.Node, w.Owner)
				}
			}
			if g.steps > 3*2*c.Nodes {
				t.Fatal("it goes on for too long")
			}
			if g.Effect() == g.Steps() {
				g.want = tree.Some(s.Tree(), g.r, g.n)
			}
			if !g.Done() {
				continue
			}
			answered++
			got := g.Reply()
			if got.Err == api.OK && !slices.Equal(got.Entries, g.want) {
				t.Fatalf("%q, %d: %q, want %q", g.r, g.n, got.Entries, g.want)
			}
			if (got.Err == api.OK) == (g.Effect() == 0) {
				t.Fatal("Effect", g.Effect(), got.Err)
			}
			s.Leave(who)
			delete(scans, who)
		}
	}
	if answered < 300 || failed < 50 || blocked < 50 {
		t.Error(answered, failed, blocked)
	}
}
