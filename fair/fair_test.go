package fair_test

import (
	"math"
	"math/rand/v2"
	"slices"
	"testing"

	"catchment/api"
	"catchment/engine"
	"catchment/fair"
	"catchment/leaf"
	"catchment/room"
	"catchment/sample"
	"catchment/tree"
)

var sizes = api.Config{Key: 4, Value: 16, Fanout: 4, Buffer: 40, Leaf: 4, Block: 2, Nodes: 200, Budget: 3, Chunk: 2}

// slowFair is Fair, told row by row.
func slowFair(picks, who []int, window int) bool {
	if window < 1 {
		return false
	}
	for i := 0; window <= len(picks) && i <= len(picks)-window; i++ {
		for _, w := range who {
			if !slices.Contains(picks[i:i+window], w) {
				return false
			}
		}
	}
	return true
}

// P32.1, P32.5
func TestFairAndGap(t *testing.T) {
	for _, x := range []struct {
		picks, who []int
		gap        int
	}{
		{[]int{1, 2, 1, 1, 2}, []int{1, 2}, 3}, {nil, []int{1}, 1}, {nil, nil, 1}, {[]int{1, 2}, nil, 1}, {[]int{1, 1}, []int{1}, 1}, {[]int{1, 1, 1}, []int{2}, 4},
		{[]int{2, 2, 1}, []int{1}, 3}, {[]int{1, 2, 2}, []int{1}, 3}, {[]int{1, 2, 3}, []int{3, 3, 1}, 3}, {[]int{-1, 0}, []int{0, -1}, 2},
	} {
		if got := fair.Gap(x.picks, x.who); got != x.gap {
			t.Errorf("Gap(%v, %v) = %d, want %d", x.picks, x.who, got, x.gap)
		}
	}
	r := rand.New(rand.NewPCG(1, 1))
	for range 2000 {
		var picks, who []int
		for range r.IntN(12) {
			picks = append(picks, 1+r.IntN(3))
		}
		for range r.IntN(4) {
			who = append(who, 1+r.IntN(4))
		}
		gap := fair.Gap(picks, who)
		for _, w := range []int{math.MinInt, -1, 0, 1, 2, 3, 4, 5, 8, 11, 12, 13, 100, math.MaxInt} {
			want := slowFair(picks, who, w)
			if fair.Fair(picks, who, w) != want || want != (w >= gap) {
				t.Fatalf("Fair(%v, %v, %d), Gap %d", picks, who, w, gap)
			}
		}
	}
}

// P32.2
func TestRoundsAndTurns(t *testing.T) {
	who := []int{3, 1, 3}
	if got := fair.Rounds(who, 2); !slices.Equal(got, []int{3, 1, 3, 3, 1, 3}) {
		t.Error(got)
	}
	for _, n := range []int{0, -1, math.MinInt} {
		if got := fair.Rounds(who, n); len(got) != 0 {
			t.Error(n, got)
		}
	}
	for _, n := range []int{0, 1, math.MaxInt} {
		if got := fair.Rounds(nil, n); len(got) != 0 {
			t.Error(n, got)
		}
	}
	one := fair.Rounds(who, 1)
	one[0] = 99
	if who[0] != 3 {
		t.Error("an answer lies in what was handed in")
	}
	for _, x := range []struct {
		picks, who []int
		want       [][]int
	}{
		{[]int{1, 2, 1, 1, 2}, []int{1, 2}, [][]int{{1, 2}, {1, 1, 2}}},
		{[]int{1, 2, 1, 1, 2, 2, 2}, []int{2, 1, 2}, [][]int{{1, 2}, {1, 1, 2}}},
		{[]int{1, 2, 3}, []int{2}, [][]int{{1, 2}}},
		{[]int{5, 1, 5, 1}, []int{1}, [][]int{{5, 1}, {5, 1}}},
		{[]int{1, 2}, nil, nil}, {nil, []int{1}, nil}, {[]int{1, 1}, []int{1, 2}, nil},
	} {
		got := fair.Turns(x.picks, x.who)
		if !slices.EqualFunc(got, x.want, slices.Equal[[]int]) {
			t.Errorf("Turns(%v, %v) = %v", x.picks, x.who, got)
		}
		for _, turn := range got {
			turn[0] = 99
			_ = append(turn, 98)
		}
		if slices.Contains(x.picks, 99) || slices.Contains(x.picks, 98) {
			t.Error("an answer lies in what was handed in")
		}
	}
}

// P32.3
func TestThingsAndBound(t *testing.T) {
	l := []api.Done{
		{Op: api.Op{Kind: api.Send, Batch: make([]api.Msg, 3)}}, {Op: api.Op{Kind: api.Send, Batch: make([]api.Msg, 10)}, Back: 5},
		{Op: api.Op{Kind: api.Get, Batch: make([]api.Msg, 50)}}, {Op: api.Op{Kind: api.Send, Batch: make([]api.Msg, 4)}, Call: 3, Point: 4},
	}
	if got := fair.Things(tree.New(), l); got != 2+7 {
		t.Error(got)
	}
	if got := fair.Things(api.Tree{}, l); got != 7 {
		t.Error("of a tree that is not sound", got)
	}
	broken := sample.Tree(rand.New(rand.NewPCG(1, 1)).IntN, 3, 3)
	broken.Nodes[1].Kids[0] = 0
	if got := fair.Things(broken, nil); got != 0 {
		t.Error("of a tree that is not sound", got)
	}
	r := rand.New(rand.NewPCG(1, 1))
	for range 50 {
		x := sample.Tree(r.IntN, 3, 3)
		want := 7
		for i := range tree.All(x) {
			want += 1 + len(x.Nodes[i].Msgs) + leaf.Count(x.Nodes[i].Blocks)
		}
		if got := fair.Things(x, l); got != want {
			t.Fatal(got, want)
		}
		if got := fair.Bound(sizes, x, l, 5, 2); got != room.Wait(sizes, 5, 2, want) {
			t.Fatal(got)
		}
	}
}

func machine(t *testing.T, ops ...[]api.Op) *engine.Engine {
	t.Helper()
	e, err := engine.New(api.Script{Config: sizes, Ops: ops})
	if err != api.OK {
		t.Fatal(err)
	}
	return e
}

// P32.4
func TestFinish(t *testing.T) {
	get := []api.Op{{Kind: api.Get, Key: "a"}} // four picks
	for _, x := range []struct {
		picks []int
		most  int
		n     int
		idle  bool
	}{
		{[]int{1}, 99, 4, true}, {[]int{1}, 4, 4, true}, {[]int{1}, 3, 3, false}, {[]int{2, 1}, 99, 8, true}, {[]int{1, 2, 2}, 99, 10, true}, {[]int{9, 1}, 99, 8, true}, {[]int{2}, 7, 7, false},
		{nil, 5, 0, false}, {[]int{1}, 0, 0, false}, {[]int{1}, -1, 0, false}, {[]int{1}, math.MinInt, 0, false}, {[]int{0, 9}, 6, 6, false}, {[]int{0}, math.MaxInt, math.MaxInt, false},
	} {
		e := machine(t, get, nil)
		if n, idle := fair.Finish(e, x.picks, x.most); n != x.n || idle != x.idle || idle != e.Idle() {
			t.Errorf("Finish(%v, %d) = %d, %v, want %d, %v", x.picks, x.most, n, idle, x.n, x.idle)
		}
	}
	e := machine(t, nil)
	if n, idle := fair.Finish(e, []int{1}, 5); n != 0 || !idle || e.Picks() != 0 {
		t.Error("of one that is idle", n, idle)
	}
	if n, idle := fair.Finish(e, nil, 5); n != 0 || !idle {
		t.Error("without picks", n, idle)
	}
	if n, idle := fair.Finish(nil, []int{1}, 5); n != 0 || !idle {
		t.Error("of a nil one", n, idle)
	}
	// It begins with the first of the picks each time it is called.
	e = machine(t, get, get)
	fair.Finish(e, []int{1, 2}, 3)
	if m := e.Moves(); m[0].Session != 1 || m[1].Session != 2 || m[2].Session != 1 {
		t.Error(m)
	}
	fair.Finish(e, []int{2, 1}, 1)
	if m := e.Moves(); m[3].Session != 2 {
		t.Error(m)
	}
}

// P32.6
func TestComesToItsEnd(t *testing.T) {
	r := rand.New(rand.NewPCG(2, 2))
	for range 60 {
		x := api.Script{Config: sizes}
		x.Config.Buffer, x.Config.Budget = r.IntN(60), r.IntN(4)
		sessions := 1 + r.IntN(4)
		for range sessions {
			var row []api.Op
			for range 15 {
				k := sample.Key(r.IntN(30))
				o := api.Op{Kind: api.Get, Key: k}
				if r.IntN(2) == 0 {
					o = api.Op{Kind: api.Send, Batch: []api.Msg{{Kind: api.Put, Key: k}, {Kind: api.Delete, Key: sample.Key(r.IntN(30))}, {Kind: api.Put, Key: sample.Key(r.IntN(30))}}}
				}
				if r.IntN(5) == 0 {
					o = api.Op{Kind: api.Look, Key: k, N: 2}
				}
				row = append(row, o)
			}
			x.Ops = append(x.Ops, row)
		}
		e, _ := engine.New(x)
		for range r.IntN(400) {
			e.Pick(1 + r.IntN(sessions))
		}
		e.Stop()
		var picks []int
		for who := range sessions {
			for range 1 + r.IntN(3) {
				picks = append(picks, who+1)
			}
		}
		r.Shuffle(len(picks), func(i, j int) { picks[i], picks[j] = picks[j], picks[i] })
		bound := fair.Bound(x.Config, e.Tree(), e.Done(), len(picks), sessions)
		if n, idle := fair.Finish(e, picks, bound); !idle {
			t.Fatalf("not idle behind %d picks", n)
		}
	}
}
