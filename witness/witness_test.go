package witness_test

import (
	"math"
	"math/rand/v2"
	"reflect"
	"slices"
	"testing"

	"catchment/api"
	"catchment/engine"
	"catchment/sample"
	"catchment/tree"
	"catchment/witness"
)

var sizes = api.Config{Key: 4, Value: 16, Fanout: 4, Buffer: 40, Leaf: 4, Block: 2, Nodes: 200, Budget: 3, Chunk: 2}

func put(k, v string) api.Msg { return api.Msg{Kind: api.Put, Key: k, Value: v} }

func send(l ...api.Msg) api.Op { return api.Op{Kind: api.Send, Batch: l} }

func get(k string) api.Op { return api.Op{Kind: api.Get, Key: k} }

func done(session, n, call, point, back int, o api.Op, r api.Reply) api.Done {
	return api.Done{Session: session, N: n, Op: o, Call: call, Point: point, Back: back, Reply: r}
}

func found(v string) api.Reply { return api.Reply{Found: true, Value: v} }

// right is a history with which nothing is wrong.
func right() []api.Done {
	return []api.Done{
		done(1, 1, 1, 5, 6, send(put("a", "1")), api.Reply{}),
		done(2, 1, 2, 4, 7, get("a"), api.Reply{}),
		done(3, 1, 3, 0, 8, send(put("a", "9")), api.Reply{Err: api.ErrFull}),
		done(2, 2, 9, 10, 12, get("a"), found("1")),
		done(1, 2, 11, 13, 0, send(put("b", "2")), api.Reply{}),
		done(3, 2, 14, 15, 0, get("b"), api.Reply{}),
		done(2, 3, 16, 18, 20, get("b"), found("2")),
	}
}

// P30.1
func TestOrder(t *testing.T) {
	if got := witness.Order(right()); !slices.Equal(got, []int{1, 0, 3, 4, 5, 6}) {
		t.Error(got)
	}
	l := []api.Done{{Point: 5}, {Point: -1}, {Point: 5}, {Point: 0}, {Point: math.MinInt}, {Point: 2}, {Point: math.MaxInt}}
	if got := witness.Order(l); !slices.Equal(got, []int{5, 0, 2, 6}) {
		t.Error(got)
	}
}

func TestFaults(t *testing.T) {
	if f := witness.Faults(sizes, 3, right()); len(f) != 0 || !witness.Check(sizes, 3, right()) {
		t.Fatal("a right one", f)
	}
	fault := func(l ...int) []api.Fault {
		var f []api.Fault
		for i := 0; i < len(l); i += 2 {
			f = append(f, api.Fault{Node: l[i], Why: l[i+1]})
		}
		return f
	}
	for i, x := range []struct {
		change func(l []api.Done)
		want   []api.Fault
	}{
		{func(l []api.Done) { l[6].Session = 0 }, fault(6, 1)},
		{func(l []api.Done) { l[6].Session = 4 }, fault(6, 1)},
		{func(l []api.Done) { l[6].N = 0 }, fault(6, 1)},
		{func(l []api.Done) { l[0].Call = 0 }, fault(0, 1)},
		{func(l []api.Done) { l[6].Point = 15 }, fault(6, 1)},
		{func(l []api.Done) { l[6].Point = -1 }, fault(6, 1)},
		{func(l []api.Done) { l[6].Point = 16 }, nil},
		{func(l []api.Done) { l[6].Point = 20 }, nil},
		{func(l []api.Done) { l[6].Point = 21 }, fault(6, 1)},
		{func(l []api.Done) { l[2].Back = 3 }, fault(2, 1)},
		{func(l []api.Done) { l[6].Back = 16; l[6].Point = 16 }, fault(6, 1)},
		{func(l []api.Done) { l[6].Back = -1 }, fault(6, 1)},
		{func(l []api.Done) { l[6].Back = 0; l[6].Point = 99; l[6].Reply = api.Reply{} }, nil},
		{func(l []api.Done) { l[1].Point = 5 }, fault(1, 2)},
		{func(l []api.Done) { l[3].Call = 3 }, fault(3, 2)},
		{func(l []api.Done) { l[3].Call = 2; l[3].Point = 4; l[3].N = 1 }, fault(3, 2)},
		{func(l []api.Done) { l[5].Call = 11 }, fault(5, 2)},
		{func(l []api.Done) { l[5].Call = 10 }, fault(5, 2)},
		{func(l []api.Done) { l[5].Call = 12 }, nil},
		{func(l []api.Done) { l[0].Reply.N, l[1].Reply.N = 1, 1 }, fault(0, 4, 1, 4)},
		{func(l []api.Done) { l[3].Call = 7 }, fault(3, 2)},
		{func(l []api.Done) { l[3].Call = 8 }, nil},
		{func(l []api.Done) { l[1].Back = 0; l[1].Reply = api.Reply{} }, fault(3, 2, 6, 2)},
		{func(l []api.Done) { l[6].N = 2 }, fault(6, 2)},
		{func(l []api.Done) { l[3].N = 1; l[6].N = 9 }, fault(3, 2)},
		{func(l []api.Done) { l[6].N = 9 }, nil},
		{func(l []api.Done) { l[2].Point = 4 }, fault(2, 2)},
		{func(l []api.Done) { l[2].Point = 8 }, fault(2, 3)},
		{func(l []api.Done) { l[6].Point = 0 }, fault(6, 3)},
		{func(l []api.Done) { l[6].Reply = api.Reply{Err: api.ErrBusy} }, fault(6, 3)},
		{func(l []api.Done) { l[6].Reply, l[6].Point = api.Reply{Err: api.ErrBusy}, 0 }, nil},
		{func(l []api.Done) { l[4].Point = 0 }, fault(6, 4)},
		{func(l []api.Done) { l[3].Reply = api.Reply{} }, fault(3, 4)},
		{func(l []api.Done) { l[3].Reply.Value = "2"; l[1].Reply.Found = true }, fault(1, 4, 3, 4)},
		{func(l []api.Done) { l[0].Reply.N = 1 }, fault(0, 4)},
		{func(l []api.Done) { l[1].Point = 6; l[3].Reply = api.Reply{} }, fault(1, 4, 3, 4)},
		{func(l []api.Done) { l[3].Reply = api.Reply{}; l[6].N = 0 }, fault(6, 1)},
		{func(l []api.Done) { l[6].N = 0; l[2].Point = 8 }, fault(2, 3, 6, 1)},
		{func(l []api.Done) { l[5].Op = api.Op{}; l[5].Point = 0 }, nil},
		{func(l []api.Done) { l[3].Reply = api.Reply{Err: api.ErrForm}; l[3].Op.N = 1 }, nil},
	} {
		l := right()
		x.change(l)
		was := slices.Clone(l)
		if got := witness.Faults(sizes, 3, l); !slices.Equal(got, x.want) {
			t.Errorf("case %d: %v, want %v", i, got, x.want)
		}
		if witness.Check(sizes, 3, l) != (len(x.want) == 0) {
			t.Errorf("case %d: Check", i)
		}
		if !reflect.DeepEqual(l, was) {
			t.Errorf("case %d: what was handed in was changed", i)
		}
	}
	bad := sizes
	bad.Key = 0
	for _, x := range []struct {
		c api.Config
		n int
	}{{bad, 3}, {sizes, 0}, {sizes, -1}, {sizes, api.MaxSessions + 1}} {
		l := []api.Done{{}}
		if f := witness.Faults(x.c, x.n, l); len(f) != 0 || witness.Check(x.c, x.n, nil) || len(witness.Entries(x.c, x.n, right())) != 0 {
			t.Error("without a model", f)
		}
	}
	if !witness.Check(sizes, 1, nil) {
		t.Error("no operations")
	}
	// The example.
	if f := witness.Faults(sizes, 1, []api.Done{done(1, 1, 1, 2, 3, get("a"), found("x"))}); !slices.Equal(f, fault(0, witness.Wrong)) {
		t.Error(f)
	}
	if witness.Untimed != 1 || witness.Twice != 2 || witness.Unplaced != 3 || witness.Wrong != 4 {
		t.Error("numbers")
	}
}

// What was not answered, and is no Send, moves no cursor of the model.
func TestLeftOut(t *testing.T) {
	next := api.Op{Kind: api.Next, N: 1}
	l := []api.Done{
		done(1, 1, 1, 1, 2, api.Op{Kind: api.Open}, api.Reply{N: 1}),
		done(2, 1, 3, 4, 5, send(put("a", "1"), put("b", "2"), put("c", "3")), api.Reply{}),
		done(1, 2, 6, 7, 0, next, api.Reply{}),
	}
	if !witness.Check(sizes, 2, l) {
		t.Error("a Next that was not answered")
	}
}

// P30.2
func TestEntriesAndPrefix(t *testing.T) {
	want := []api.Entry{{Key: "a", Value: "1"}, {Key: "b", Value: "2"}}
	if got := witness.Entries(sizes, 3, right()); !slices.Equal(got, want) {
		t.Error(got)
	}
	l := right()
	l[0].Reply = found("wrong") // Entries ask of no reply
	if got := witness.Entries(sizes, 3, l[:4]); !slices.Equal(got, want[:1]) {
		t.Error(got)
	}
	l = right()
	l[3].Reply.Entries = []api.Entry{{Key: "k"}}
	for n := -2; n < 25; n++ {
		var want []api.Done
		for _, d := range l {
			if d.Call > n {
				break
			}
			if d.Back > n {
				d.Back, d.Reply = 0, api.Reply{}
			}
			if d.Point > n {
				d.Point = 0
			}
			want = append(want, d)
		}
		got := witness.Prefix(l, n)
		if !reflect.DeepEqual(got, want) {
			t.Errorf("Prefix of %d: %+v, want %+v", n, got, want)
		}
		for i := range got {
			if len(got[i].Op.Batch) > 0 {
				got[i].Op.Batch[0].Key = "spoilt"
			}
			if len(got[i].Reply.Entries) > 0 {
				got[i].Reply.Entries[0].Key = "spoilt"
			}
		}
		if l[0].Op.Batch[0].Key != "a" || l[3].Reply.Entries[0].Key != "k" {
			t.Fatal("an answer lies in what was handed in")
		}
	}
}

// P30.3, P30.4
func TestMachines(t *testing.T) {
	r := rand.New(rand.NewPCG(1, 1))
	for range 40 {
		x := api.Script{Config: sizes}
		x.Config.Budget, x.Config.Buffer = 50, r.IntN(90)
		for range 3 {
			var row []api.Op
			for range 12 {
				k := sample.Key(r.IntN(20))
				row = append(row, []api.Op{get(k), send(put(k, "v"), api.Msg{Kind: api.Delete, Key: sample.Key(r.IntN(20))}), {Kind: api.Look, Key: k, N: 2}, {Kind: api.Open}, {Kind: api.Next, N: 1}, get("")}[r.IntN(6)])
			}
			x.Ops = append(x.Ops, row)
		}
		e, err := engine.New(x)
		if err != api.OK {
			t.Fatal(err)
		}
		back := false // was a Point taken back?
		for !e.Idle() {
			before := e.Done()
			e.Pick(1 + r.IntN(3))
			l := e.Done()
			for i, d := range before {
				back = back || d.Point != 0 && l[i].Point != d.Point
			}
			if !witness.Check(x.Config, 3, l) {
				t.Fatal(witness.Faults(x.Config, 3, l))
			}
			if !slices.Equal(witness.Entries(x.Config, 3, l), tree.Entries(e.Tree(), api.Range{})) {
				t.Fatal("Entries")
			}
		}
		l := e.Done()
		for n := range e.Picks() {
			if p := witness.Prefix(l, n); !back && !witness.Check(x.Config, 3, p) {
				t.Fatal(n, witness.Faults(x.Config, 3, p))
			}
		}
		// An answer that is another one is found.
		for i, d := range l {
			if d.Op.Kind == api.Get && d.Reply.Err == api.OK {
				l[i].Reply.Found = !d.Reply.Found
				if f := witness.Faults(x.Config, 3, l); !slices.Equal(f, []api.Fault{{Node: i, Why: witness.Wrong}}) {
					t.Fatal(f)
				}
				break
			}
		}
	}
}
