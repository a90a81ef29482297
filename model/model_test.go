package model_test

import (
	"math"
	"math/rand/v2"
	"slices"
	"testing"

	"catchment/api"
	"catchment/fold"
	"catchment/key"
	"catchment/model"
	"catchment/room"
	"catchment/sample"
	"catchment/word"
)

var sizes = api.Config{Key: 8, Value: 16, Fanout: 4, Buffer: 40, Leaf: 4, Block: 2, Nodes: 100, Budget: 1, Chunk: 2}

func fresh(t *testing.T, sessions int) *model.Model {
	t.Helper()
	m, err := model.New(sizes, sessions)
	if m == nil || err != api.OK {
		t.Fatal(err)
	}
	return m
}

func put(k, v string) api.Msg { return api.Msg{Kind: api.Put, Key: k, Value: v} }

func ents(l ...string) []api.Entry {
	var e []api.Entry
	for i := 0; i < len(l); i += 2 {
		e = append(e, api.Entry{Key: l[i], Value: l[i+1]})
	}
	return e
}

func do(t *testing.T, m *model.Model, who int, o api.Op, want api.Reply) {
	t.Helper()
	if r := m.Do(who, o); !model.Same(r, want) {
		t.Errorf("%+v: %+v, want %+v", o, r, want)
	}
}

// P28.1
func TestNewSet(t *testing.T) {
	bad := sizes
	bad.Value = 7
	for _, x := range []struct {
		c api.Config
		n int
	}{{bad, 1}, {sizes, 0}, {sizes, -1}, {sizes, api.MaxSessions + 1}, {sizes, math.MaxInt}, {sizes, math.MinInt}} {
		if m, err := model.New(x.c, x.n); m != nil || err != api.ErrArg {
			t.Errorf("New: %d", err)
		}
	}
	fresh(t, api.MaxSessions)
	m := fresh(t, 2)
	if len(m.Entries()) != 0 || m.Cursors(1) != 0 || m.Sends() != 0 {
		t.Error("a new model")
	}
	e := ents("a", "1", "c", "")
	if m.Set(e) != api.OK || !slices.Equal(m.Entries(), e) {
		t.Error("Set")
	}
	for _, bad := range [][]api.Entry{ents("a", "", "a", ""), ents("b", "", "a", "")} {
		if m.Set(bad) != api.ErrOrder || !slices.Equal(m.Entries(), e) {
			t.Error("Set of entries that do not rise")
		}
	}
	e[0].Value = "spoilt"
	m.Entries()[1].Value = "spoilt"
	if !slices.Equal(m.Entries(), ents("a", "1", "c", "")) {
		t.Error("what was handed in, or told, is kept")
	}
	m.Do(1, api.Op{Kind: api.Open})
	if m.Set(nil) != api.OK || len(m.Entries()) != 0 || m.Cursors(1) != 1 {
		t.Error("Set of none")
	}
	for _, who := range []int{0, 2, 3, -1, math.MaxInt} {
		if m.Cursors(who) != 0 {
			t.Error("Cursors", who)
		}
	}
}

// P28.2
func TestDo(t *testing.T) {
	m := fresh(t, 2)
	for _, who := range []int{0, 3, -1, math.MinInt} {
		do(t, m, who, api.Op{Kind: api.Get, Key: "a"}, api.Reply{Err: api.ErrArg})
		do(t, m, who, api.Op{}, api.Reply{Err: api.ErrArg})
	}
	do(t, m, 1, api.Op{}, api.Reply{Err: api.ErrForm})
	do(t, m, 1, api.Op{Kind: api.Send, Batch: []api.Msg{put("a", "1"), put("b", "2")}}, api.Reply{})
	do(t, m, 2, api.Op{Kind: api.Get, Key: "a"}, api.Reply{Found: true, Value: "1"})
	do(t, m, 2, api.Op{Kind: api.Get, Key: "c"}, api.Reply{})
	do(t, m, 2, api.Op{Kind: api.Get}, api.Reply{Err: api.ErrSize})
	do(t, m, 1, api.Op{Kind: api.Send, Batch: []api.Msg{{Kind: api.Clear, Key: "b"}, {Kind: api.Add, Key: "c", Delta: 3}, {Kind: api.Add, Key: "c", Delta: 4}, put("d", "4"), {Kind: api.Delete, Key: "a"}}}, api.Reply{})
	if want := ents("c", word.Put(7), "d", "4"); !slices.Equal(m.Entries(), want) || m.Sends() != 2 {
		t.Error(m.Entries(), m.Sends())
	}
	do(t, m, 1, api.Op{Kind: api.Send, Batch: []api.Msg{put("x", "1"), put("", "2")}}, api.Reply{Err: api.ErrSize})
	if len(m.Entries()) != 2 || m.Sends() != 2 {
		t.Error("what is refused changed something")
	}
	do(t, m, 1, api.Op{Kind: api.Send}, api.Reply{})
	if m.Sends() != 3 {
		t.Error("a Send of nothing is one")
	}
	do(t, m, 1, api.Op{Kind: api.Look, N: 1}, api.Reply{Entries: ents("c", word.Put(7))})
	do(t, m, 1, api.Op{Kind: api.Look, N: 2, Key: "c\x00"}, api.Reply{Entries: ents("d", "4")})
	do(t, m, 1, api.Op{Kind: api.Look, N: 2, Key: "c", To: "d"}, api.Reply{Entries: ents("c", word.Put(7))})
	do(t, m, 1, api.Op{Kind: api.Look, N: 2, Key: "e"}, api.Reply{})
	do(t, m, 1, api.Op{Kind: api.Look, N: 3}, api.Reply{Err: api.ErrLimit})
}

func TestCursors(t *testing.T) {
	m := fresh(t, 2)
	m.Set(ents("a", "1", "b", "2", "c", "3", "d", "4"))
	next := func(n int) api.Op { return api.Op{Kind: api.Next, N: n} }
	do(t, m, 1, next(1), api.Reply{Err: api.ErrCursor})
	do(t, m, 1, api.Op{Kind: api.Open, Key: "b"}, api.Reply{N: 1})
	do(t, m, 1, api.Op{Kind: api.Open, Key: "b", To: "a"}, api.Reply{Err: api.ErrRange})
	do(t, m, 2, next(1), api.Reply{Err: api.ErrCursor})
	do(t, m, 2, api.Op{Kind: api.Open, To: "c"}, api.Reply{N: 1})
	do(t, m, 1, api.Op{Kind: api.Open}, api.Reply{N: 2})
	if m.Cursors(1) != 2 || m.Cursors(2) != 1 {
		t.Error("Cursors")
	}
	do(t, m, 1, next(1), api.Reply{Entries: ents("b", "2", "c", "3")})
	do(t, m, 1, next(1), api.Reply{Entries: ents("d", "4"), End: true})
	do(t, m, 1, next(1), api.Reply{End: true})
	do(t, m, 2, next(1), api.Reply{Entries: ents("a", "1", "b", "2")})
	m.Do(1, api.Op{Kind: api.Send, Batch: []api.Msg{put("aa", "x"), put("b", "y"), put("bb", "z")}})
	do(t, m, 2, next(1), api.Reply{Entries: ents("bb", "z"), End: true})
	do(t, m, 1, api.Op{Kind: api.Close, N: 1}, api.Reply{})
	do(t, m, 1, api.Op{Kind: api.Close, N: 1}, api.Reply{Err: api.ErrCursor})
	do(t, m, 1, next(1), api.Reply{Err: api.ErrCursor})
	do(t, m, 1, api.Op{Kind: api.Open}, api.Reply{N: 3})
	do(t, m, 1, api.Op{Kind: api.Close, N: -1}, api.Reply{Err: api.ErrCursor})
	do(t, m, 1, api.Op{Kind: api.Next, N: 3, Key: "a"}, api.Reply{Err: api.ErrForm})
	one := sizes
	one.Chunk = 1
	x, _ := model.New(one, 1)
	x.Do(1, api.Op{Kind: api.Send, Batch: []api.Msg{put("a", "1"), put("b", "2")}})
	x.Do(1, api.Op{Kind: api.Open})
	do(t, x, 1, next(1), api.Reply{Entries: ents("a", "1")})
	do(t, x, 1, next(1), api.Reply{Entries: ents("b", "2")})
	do(t, x, 1, next(1), api.Reply{End: true})
}

// P28.3
func TestSameRefusedForkNil(t *testing.T) {
	r := api.Reply{Err: 1, Found: true, Value: "v", Entries: ents("a", "1"), N: 2, End: true}
	if !model.Same(r, r) || !model.Same(api.Reply{}, api.Reply{Entries: []api.Entry{}}) {
		t.Error("Same")
	}
	for i, change := range []func(*api.Reply){
		func(r *api.Reply) { r.Err = 2 }, func(r *api.Reply) { r.Found = false }, func(r *api.Reply) { r.Value = "" }, func(r *api.Reply) { r.Entries = nil },
		func(r *api.Reply) { r.Entries = ents("a", "2") }, func(r *api.Reply) { r.Entries = ents("b", "1") }, func(r *api.Reply) { r.N = 0 }, func(r *api.Reply) { r.End = false },
	} {
		x := r
		if change(&x); model.Same(r, x) || model.Same(x, r) {
			t.Errorf("case %d", i)
		}
	}
	for err := range 20 {
		if model.Refused(api.Reply{Err: api.Errno(err)}) != (err == 9 || err == 10) {
			t.Errorf("Refused of %d", err)
		}
	}
	m := fresh(t, 2)
	m.Set(ents("a", "1"))
	m.Do(1, api.Op{Kind: api.Open})
	f := m.Fork()
	f.Do(1, api.Op{Kind: api.Send, Batch: []api.Msg{put("a", "2"), put("b", "3")}})
	f.Do(1, api.Op{Kind: api.Close, N: 1})
	f.Do(2, api.Op{Kind: api.Open})
	if !slices.Equal(m.Entries(), ents("a", "1")) || m.Cursors(1) != 1 || m.Cursors(2) != 0 || m.Sends() != 0 {
		t.Error("a fork changed the model")
	}
	m.Do(1, api.Op{Kind: api.Send, Batch: []api.Msg{{Kind: api.Clear}}})
	if len(f.Entries()) != 2 || f.Sends() != 1 {
		t.Error("a model changed its fork")
	}
	var n *model.Model
	if n.Set(nil) != api.ErrNil || n.Set(ents("b", "", "a", "")) != api.ErrNil || len(n.Entries()) != 0 || n.Cursors(1) != 0 || n.Sends() != 0 || n.Fork() != nil {
		t.Error("nil")
	}
	do(t, n, 0, api.Op{}, api.Reply{Err: api.ErrNil})
}

// P28.4, P28.5, P28.6
func TestWhatFollows(t *testing.T) {
	r := rand.New(rand.NewPCG(1, 1))
	for range 200 {
		m := fresh(t, 2)
		var all []api.Msg
		for range 60 {
			who, before := 1+r.IntN(2), m.Entries()
			o := api.Op{Kind: api.OpKind(r.IntN(8)), Key: sample.Key(r.IntN(12)), N: r.IntN(4)}
			switch o.Kind {
			case api.Send:
				o.Key, o.N = "", 0
				for range r.IntN(4) {
					x := api.Msg{Kind: api.Kind(r.IntN(5)), Key: sample.Key(r.IntN(12))}
					switch x.Kind {
					case api.Put:
						x.Value = "v"
					case api.Add:
						x.Delta = 2
					case api.Clear:
						x.To = sample.Key(r.IntN(14))
					}
					o.Batch = append(o.Batch, x)
				}
			case api.Get:
				o.N = 0
			case api.Open:
				o.N = 0
			case api.Next, api.Close:
				o.Key = ""
			}
			f, sends := m.Fork(), m.Sends()
			reply := m.Do(who, o)
			if o.Kind == api.Send && reply.Err == api.OK {
				all = append(all, o.Batch...)
				if m.Sends() != sends+1 {
					t.Fatal("Sends")
				}
			} else if !slices.Equal(m.Entries(), before) || m.Sends() != sends {
				t.Fatalf("%+v changed entries", o)
			}
			if want := room.Ask(o, sizes); want != api.OK && reply.Err != want {
				t.Fatalf("%+v: %d, want %d", o, reply.Err, want)
			}
			if reply.Err != api.OK && (m.Cursors(1) != f.Cursors(1) || m.Cursors(2) != f.Cursors(2)) {
				t.Fatalf("%+v has an error, and changed cursors", o)
			}
			if want := fold.Entries(all, nil, api.Range{}); !slices.Equal(m.Entries(), want) {
				t.Fatalf("%q, want %q", m.Entries(), want)
			}
			for _, e := range m.Entries() {
				if v, is := fold.Value(all, e.Key, "", false); v != e.Value || !is {
					t.Fatal(e)
				}
			}
		}
		x := api.Range{From: sample.Key(r.IntN(6)), To: sample.Key(6 + r.IntN(6))}
		n := m.Do(1, api.Op{Kind: api.Open, Key: x.From, To: x.To}).N
		var told []api.Entry
		for {
			reply := m.Do(1, api.Op{Kind: api.Next, N: n})
			if told = append(told, reply.Entries...); reply.End {
				break
			}
		}
		want := slices.DeleteFunc(m.Entries(), func(e api.Entry) bool { return !key.Holds(x, e.Key) })
		if !slices.Equal(told, want) {
			t.Fatalf("%q, want %q", told, want)
		}
	}
}
