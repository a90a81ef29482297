package lin_test

import (
	"math"
	"math/rand/v2"
	"slices"
	"testing"

	"catchment/api"
	"catchment/engine"
	"catchment/lin"
	"catchment/model"
	"catchment/witness"
)

var sizes = api.Config{Key: 4, Value: 16, Fanout: 4, Buffer: 40, Leaf: 4, Block: 2, Nodes: 200, Budget: 3, Chunk: 2}

func send(k, v string) api.Op {
	return api.Op{Kind: api.Send, Batch: []api.Msg{{Kind: api.Put, Key: k, Value: v}}}
}

func get(k string) api.Op { return api.Op{Kind: api.Get, Key: k} }

func done(session, call, back int, o api.Op, r api.Reply) api.Done {
	return api.Done{Session: session, N: 1, Op: o, Call: call, Back: back, Reply: r}
}

func found(v string) api.Reply { return api.Reply{Found: true, Value: v} }

func explain(t *testing.T, what string, l []api.Done, want []int, wantErr api.Errno, count int) {
	t.Helper()
	got, err := lin.Explain(sizes, 3, l)
	if !slices.Equal(got, want) || err != wantErr {
		t.Errorf("%s: %v, %d, want %v, %d", what, got, err, want, wantErr)
	}
	if lin.Linear(sizes, 3, l) != (wantErr == api.OK) {
		t.Errorf("%s: Linear", what)
	}
	if n, err := lin.Count(sizes, 3, l, math.MaxInt); n != count || err != api.OK {
		t.Errorf("%s: Count %d, %d, want %d", what, n, err, count)
	}
}

// P31.1
func TestAhead(t *testing.T) {
	for _, x := range []struct {
		back, call int
		want       bool
	}{{3, 4, true}, {4, 4, false}, {5, 4, false}, {0, 4, false}, {-1, 4, true}, {math.MinInt, math.MaxInt, true}} {
		if lin.Ahead(api.Done{Back: x.back}, api.Done{Call: x.call}) != x.want {
			t.Errorf("%+v", x)
		}
	}
}

func TestExplain(t *testing.T) {
	none := api.Reply{}
	explain(t, "nothing", nil, nil, api.OK, 1)
	// The example.
	explain(t, "found, and then not", []api.Done{done(1, 1, 9, send("a", "1"), none), done(2, 2, 3, get("a"), found("1")), done(2, 4, 5, get("a"), none)}, nil, api.ErrGone, 0)
	explain(t, "not found, and then found", []api.Done{done(1, 1, 9, send("a", "1"), none), done(2, 2, 3, get("a"), none), done(2, 4, 5, get("a"), found("1"))}, []int{1, 0, 2}, api.OK, 1)
	explain(t, "one behind the other", []api.Done{done(1, 1, 2, send("a", "1"), none), done(2, 3, 4, get("a"), none)}, nil, api.ErrGone, 0)
	explain(t, "side by side", []api.Done{done(1, 1, 3, send("a", "1"), none), done(2, 3, 4, get("a"), none)}, []int{1, 0}, api.OK, 1)
	explain(t, "two that do not meet", []api.Done{done(1, 1, 9, send("a", "1"), none), done(2, 2, 9, send("b", "1"), none)}, []int{0, 1}, api.OK, 2)
	// optional ones: only if they are needed, and only Sends
	explain(t, "not needed", []api.Done{done(1, 1, 0, send("a", "1"), none), done(2, 2, 3, get("a"), none)}, []int{1}, api.OK, 1)
	explain(t, "needed", []api.Done{done(2, 1, 3, get("a"), found("1")), done(1, 2, 0, send("a", "1"), none)}, []int{1, 0}, api.OK, 1)
	explain(t, "needed, but later", []api.Done{done(2, 1, 3, get("a"), found("1")), done(1, 4, 0, send("a", "1"), none)}, nil, api.ErrGone, 0)
	explain(t, "before what it does not hurt", []api.Done{done(1, 1, 0, send("b", "1"), none), done(2, 2, 3, get("a"), none)}, []int{0, 1}, api.OK, 2)
	explain(t, "refused, and a Get that was not answered", []api.Done{done(1, 1, 3, send("a", "1"), api.Reply{Err: api.ErrFull}), done(2, 2, 4, get("a"), api.Reply{Err: api.ErrBusy}), done(3, 3, 0, get("a"), none)}, nil, api.OK, 1)
	explain(t, "a refused Send has no effect", []api.Done{done(1, 1, 3, send("a", "1"), api.Reply{Err: api.ErrFull}), done(2, 4, 5, get("a"), found("1"))}, nil, api.ErrGone, 0)
	explain(t, "an error is an answer", []api.Done{done(1, 1, 3, send("", "1"), api.Reply{Err: api.ErrSize})}, []int{0}, api.OK, 1)
	explain(t, "another error", []api.Done{done(1, 1, 3, send("", "1"), api.Reply{Err: api.ErrForm})}, nil, api.ErrGone, 0)
	// Points play no part
	l := []api.Done{done(1, 1, 3, send("a", "1"), none), done(2, 2, 4, get("a"), none)}
	l[0].Point, l[1].Point = 2, 3
	explain(t, "with Points", l, []int{1, 0}, api.OK, 1)
	// both must come ahead of the other one
	explain(t, "round about", []api.Done{done(1, 5, 1, get("a"), none), done(2, 5, 1, get("a"), none)}, nil, api.ErrGone, 0)
	explain(t, "ahead of itself", []api.Done{done(1, 5, 1, get("a"), none)}, []int{0}, api.OK, 1)
}

func TestRefused(t *testing.T) {
	bad := sizes
	bad.Leaf = 0
	for _, x := range []struct {
		c api.Config
		n int
	}{{bad, 1}, {sizes, 0}, {sizes, -1}, {sizes, 65}} {
		long := make([]api.Done, 20)
		if l, err := lin.Explain(x.c, x.n, long); len(l) != 0 || err != api.ErrArg || lin.Linear(x.c, x.n, nil) {
			t.Error("Explain", err)
		}
		if n, err := lin.Count(x.c, x.n, long, 5); n != 0 || err != api.ErrArg {
			t.Error("Count", err)
		}
	}
	var l []api.Done
	for i := range lin.Most {
		l = append(l, done(1, 3*i+1, 3*i+2, get("a"), api.Reply{}))
	}
	explain(t, "as many as may be", l, []int{0, 1, 2, 3, 4, 5, 6, 7}, api.OK, 1)
	l = append(l, done(2, 1, 0, get("a"), api.Reply{}), done(3, 1, 9, get("a"), api.Reply{Err: api.ErrBusy}))
	explain(t, "and some that are left out", l, []int{0, 1, 2, 3, 4, 5, 6, 7}, api.OK, 1)
	for _, more := range []api.Done{done(2, 1, 0, send("a", "1"), api.Reply{}), done(2, 1, 2, get("a"), api.Reply{})} {
		l := append(slices.Clone(l), more)
		if got, err := lin.Explain(sizes, 3, l); len(got) != 0 || err != api.ErrLimit || lin.Linear(sizes, 3, l) {
			t.Error("Explain", err)
		}
		for _, most := range []int{-1, 0, 5} {
			if n, err := lin.Count(sizes, 3, l, most); n != 0 || err != api.ErrLimit {
				t.Error("Count", n, err)
			}
		}
	}
	if lin.Most != 8 {
		t.Error("Most")
	}
}

// P31.2
func TestCount(t *testing.T) {
	var l []api.Done
	for i := range 5 {
		l = append(l, done(1, 1+i, 99, get("a"), api.Reply{}))
	}
	for most, want := range map[int]int{math.MinInt: 0, -1: 0, 0: 0, 1: 1, 7: 7, 119: 119, 120: 120, 121: 120, math.MaxInt: 120} {
		if n, err := lin.Count(sizes, 3, l, most); n != want || err != api.OK {
			t.Errorf("Count, at most %d: %d, %d", most, n, err)
		}
	}
}

// slow is all explanations, in order, found by going through all rows.
func slow(l []api.Done, sessions int) [][]int {
	var out [][]int
	var rows func(row []int)
	rows = func(row []int) {
		if explains(l, row, sessions) {
			out = append(out, slices.Clone(row))
		}
		for i := range l {
			if !slices.Contains(row, i) {
				rows(append(slices.Clone(row), i))
			}
		}
	}
	rows(nil)
	return out
}

func explains(l []api.Done, row []int, sessions int) bool {
	m, _ := model.New(sizes, sessions)
	for i, d := range l {
		if d.Back != 0 && !model.Refused(d.Reply) && !slices.Contains(row, i) {
			return false
		}
	}
	for k, i := range row {
		d := l[i]
		if d.Back != 0 && model.Refused(d.Reply) || d.Back == 0 && d.Op.Kind != api.Send {
			return false
		}
		for _, j := range row[:k] {
			if lin.Ahead(d, l[j]) {
				return false
			}
		}
		if r := m.Do(d.Session, d.Op); d.Back != 0 && !model.Same(r, d.Reply) {
			return false
		}
	}
	return true
}

func TestAgainstAllRows(t *testing.T) {
	r := rand.New(rand.NewPCG(1, 1))
	linear := 0
	for range 600 {
		var l []api.Done
		for i := range 1 + r.IntN(5) {
			d := done(1+r.IntN(3), i+1, 0, send([]string{"a", "b"}[r.IntN(2)], []string{"1", "2"}[r.IntN(2)]), api.Reply{})
			if r.IntN(2) == 0 {
				d.Op = get([]string{"a", "b"}[r.IntN(2)])
				if r.IntN(2) == 0 {
					d.Reply = found([]string{"1", "2"}[r.IntN(2)])
				}
			}
			if r.IntN(4) > 0 {
				d.Back = d.Call + 1 + r.IntN(4)
			} else {
				d.Reply = api.Reply{}
			}
			if d.Back > 0 && r.IntN(8) == 0 {
				d.Reply = api.Reply{Err: api.ErrFull}
			}
			l = append(l, d)
		}
		all := slow(l, 3)
		got, err := lin.Explain(sizes, 3, l)
		if (err == api.OK) != (len(all) > 0) || err == api.OK && !slices.Equal(got, all[0]) || err != api.OK && err != api.ErrGone {
			t.Fatalf("%+v: %v, %d, want %v", l, got, err, all)
		}
		want := 0
		for i, row := range all {
			longer := slices.ContainsFunc(all[:i], func(x []int) bool { return len(x) < len(row) && slices.Equal(x, row[:len(x)]) })
			if !longer {
				want++
			}
		}
		if n, err := lin.Count(sizes, 3, l, math.MaxInt); n != want || err != api.OK {
			t.Fatalf("%+v: Count %d, want %d", l, n, want)
		}
		if len(all) > 0 {
			linear++
		}
	}
	if linear < 50 {
		t.Error(linear)
	}
}

// P31.3, P31.4
func TestMachines(t *testing.T) {
	r := rand.New(rand.NewPCG(2, 2))
	for range 150 {
		x := api.Script{Config: sizes}
		x.Config.Budget = r.IntN(3)
		for range 3 {
			var row []api.Op
			for range 2 + r.IntN(2) {
				row = append(row, []api.Op{get("a"), send("a", "1"), send("b", "2"), {Kind: api.Look, N: 2}, {Kind: api.Open}, {Kind: api.Next, N: 1}}[r.IntN(6)])
			}
			x.Ops = append(x.Ops, row)
		}
		e, _ := engine.New(x)
		for n := 0; !e.Idle() && n < 60; n++ {
			e.Pick(1 + r.IntN(3))
			l := e.Done()
			row, err := lin.Explain(x.Config, 3, l)
			if err == api.ErrLimit {
				break
			}
			if !witness.Check(x.Config, 3, l) || err != api.OK || !lin.Linear(x.Config, 3, l) {
				t.Fatalf("%+v: %d", l, err)
			}
			if !explains(l, row, 3) {
				t.Fatalf("%v is no explanation", row)
			}
		}
	}
}
