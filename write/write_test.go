package write_test

import (
	"math/rand/v2"
	"slices"
	"testing"

	"catchment/api"
	"catchment/sample"
	"catchment/shape"
	"catchment/state"
	"catchment/tree"
	"catchment/write"
)

var sizes = api.Config{Key: 8, Value: 16, Fanout: 4, Buffer: 20, Leaf: 4, Block: 2, Nodes: 100, Budget: 1, Chunk: 5}

func put(k string) api.Msg { return api.Msg{Kind: api.Put, Key: k, Value: "v"} }

func move(what api.What, node, version int) api.Move {
	return api.Move{Session: 1, What: what, Node: node, Version: version}
}

func fresh(t *testing.T, c api.Config, sessions int) *state.State {
	t.Helper()
	s, err := state.New(c, sessions)
	if err != api.OK {
		t.Fatal(err)
	}
	return s
}

// steps does steps of a write, and holds the moves against what they should be.
func steps(t *testing.T, w *write.Write, s *state.State, want ...api.Move) {
	t.Helper()
	for i, x := range want {
		before := w.Steps()
		if w.Done() || w.Reply().Err != api.OK {
			t.Fatalf("ahead of step %d: done %v, %d", i, w.Done(), w.Reply().Err)
		}
		if m := w.Step(s); m != x {
			t.Fatalf("step %d: %+v, want %+v", i, m, x)
		}
		if w.Steps() != before+1 {
			t.Fatal("Steps", w.Steps())
		}
	}
}

// ended: is a write done, as it should be?
func ended(t *testing.T, w *write.Write, s *state.State, err api.Errno, effect, all, flushes int) {
	t.Helper()
	if r := w.Reply(); !w.Done() || r.Err != err || r.Found || r.Value != "" || len(r.Entries) > 0 || r.N != 0 || r.End {
		t.Fatalf("done %v: %+v", w.Done(), r)
	}
	if w.Effect() != effect || w.Steps() != all || w.Flushes() != flushes {
		t.Fatal(w.Effect(), w.Steps(), w.Flushes())
	}
	if m := w.Step(s); m != move(api.Nothing, 0, 0) || w.Steps() != all {
		t.Fatal("a step of one that is done", m)
	}
	for i, x := range s.Words() {
		if x.Owner == 1 {
			t.Fatal("it holds", i)
		}
	}
}

// P25.1
func TestSends(t *testing.T) {
	s := fresh(t, sizes, 2)
	l := []api.Msg{put("a"), put("b")}
	w := write.New(1, l)
	l[0].Key = "spoilt"
	if w.Effect() != 0 || w.Flushes() != 0 || w.Done() {
		t.Error("a new write")
	}
	steps(t, w, s, move(api.Held, 1, 0))
	if w.Effect() != 0 || len(tree.Entries(s.Tree(), api.Range{})) != 0 {
		t.Error("ahead of its being sent")
	}
	steps(t, w, s, move(api.Sent, 1, 1))
	if e := tree.Entries(s.Tree(), api.Range{}); len(e) != 2 || e[0].Key != "a" || w.Effect() != 2 {
		t.Error("both are there at once", e)
	}
	steps(t, w, s, move(api.Bumped, 1, 1))
	ended(t, w, s, api.OK, 2, 3, 0)
	w = write.New(1, nil)
	steps(t, w, s, move(api.Held, 1, 1))
	steps(t, w, s, move(api.Held, 2, 0)) // 36 bytes are more than 20: a flush
	steps(t, w, s, move(api.Poured, 2, 0), move(api.Bumped, 2, 1), move(api.Bumped, 1, 2), move(api.Held, 1, 2), move(api.Sent, 1, 2), move(api.Bumped, 1, 3))
	ended(t, w, s, api.OK, 7, 8, 1)
}

func TestBlocked(t *testing.T) {
	s := fresh(t, sizes, 2)
	s.Try(1, 2)
	w := write.New(1, []api.Msg{put("a")})
	steps(t, w, s, move(api.Blocked, 1, 0), move(api.Blocked, 1, 0))
	s.Give(1, 2)
	steps(t, w, s, move(api.Held, 1, 0))
	f, z := w.Fork(), s.Fork()
	steps(t, w, s, move(api.Sent, 1, 1), move(api.Bumped, 1, 1))
	ended(t, w, s, api.OK, 4, 5, 0)
	steps(t, f, z, move(api.Sent, 1, 1), move(api.Bumped, 1, 1))
	// a flush within that is blocked
	s.Try(1, 2)
	s.Send(2, []api.Msg{put("b")})
	s.Give(1, 2)
	s.Try(2, 2)
	w = write.New(1, []api.Msg{put("c")})
	steps(t, w, s, move(api.Held, 1, 2), move(api.Blocked, 2, 0))
	f, z = w.Fork(), s.Fork()
	steps(t, w, s, move(api.Blocked, 2, 0))
	s.Give(2, 2)
	steps(t, w, s, move(api.Held, 2, 0), move(api.Poured, 2, 0))
	z.Give(2, 2)
	steps(t, f, z, move(api.Held, 2, 0), move(api.Poured, 2, 0), move(api.Bumped, 2, 1))
	steps(t, w, s, move(api.Bumped, 2, 1), move(api.Bumped, 1, 3), move(api.Held, 1, 3), move(api.Sent, 1, 3), move(api.Bumped, 1, 4))
	ended(t, w, s, api.OK, 9, 10, 1)
	if f.Done() || f.Steps() != 5 {
		t.Error("a write changed its fork")
	}
}

func TestErrors(t *testing.T) {
	s := fresh(t, sizes, 1)
	w := write.New(1, []api.Msg{{Kind: api.Put}})
	bad := move(api.Nothing, 1, 0)
	bad.Err = api.ErrSize
	steps(t, w, s, move(api.Held, 1, 0), bad, move(api.Freed, 1, 0))
	ended(t, w, s, api.ErrSize, 0, 3, 0)
	// With two nodes a leaf that is Over finds no number.
	few := sizes
	few.Nodes = 2
	s = fresh(t, few, 1)
	var l []api.Msg
	for _, k := range []string{"a", "b", "c", "d", "e"} {
		l = append(l, put(k))
	}
	for _, l := range [][]api.Msg{l, {put("f"), put("g")}} {
		for w = write.New(1, l); !w.Done(); {
			w.Step(s)
		}
		if w.Reply().Err != api.OK {
			t.Fatal(w.Reply().Err)
		}
	}
	before := tree.Entries(s.Tree(), api.Range{})
	w = write.New(1, []api.Msg{put("h")})
	full := move(api.Nothing, 0, 0)
	full.Err = api.ErrFull
	steps(t, w, s, move(api.Held, 1, 3), move(api.Held, 2, 1), full, move(api.Freed, 2, 1), move(api.Freed, 1, 3))
	ended(t, w, s, api.ErrFull, 0, 5, 1)
	if !slices.Equal(tree.Entries(s.Tree(), api.Range{}), before) {
		t.Error("what is refused changed something")
	}
}

func TestNil(t *testing.T) {
	var w *write.Write
	if w.Step(fresh(t, sizes, 1)) != (api.Move{}) || !w.Done() || w.Reply().Err != api.ErrNil || w.Effect() != 0 || w.Steps() != 0 || w.Flushes() != 0 || w.Fork() != nil {
		t.Error("nil")
	}
	for _, who := range []int{-1, 0, 9} {
		w = write.New(who, nil)
		w.Step(fresh(t, sizes, 1))
		w.Step(nil)
	}
}

// P25.2, P25.3, P25.4
func TestManyWrites(t *testing.T) {
	r := rand.New(rand.NewPCG(1, 1))
	full := 0
	for range 40 {
		c := sizes
		c.Buffer, c.Nodes = r.IntN(80), 12+r.IntN(60)
		s := fresh(t, c, 4)
		writes, batches := map[int]*write.Write{}, map[int][]api.Msg{}
		want, stamp, left := map[string]string{}, 0, 60
		for n := 0; left > 0 || len(writes) > 0; n++ {
			if n > 100000 {
				t.Fatal("they do not end")
			}
			who := 1 + r.IntN(4)
			w := writes[who]
			if w == nil {
				if left > 0 {
					left--
					var l []api.Msg
					for range r.IntN(5) {
						m := put(sample.Key(r.IntN(sample.Keys)))
						if r.IntN(3) == 0 {
							m = api.Msg{Kind: api.Delete, Key: m.Key}
						}
						l = append(l, m)
					}
					writes[who], batches[who] = write.New(who, l), l
				}
				continue
			}
			before := s.Tree().Nodes[1]
			m := w.Step(s)
			if m.What == api.Sent {
				stamp++
				if m.Version != stamp || m.Node != 1 || w.Effect() != w.Steps() {
					t.Fatalf("%+v, want the stamp %d", m, stamp)
				}
				if shape.Over(before, c) || shape.Heavy(before, c) {
					t.Fatal("the root had too much when it was sent")
				}
				for _, x := range batches[who] {
					if delete(want, x.Key); x.Kind == api.Put {
						want[x.Key] = x.Value
					}
				}
			}
			x := s.Tree()
			if f := shape.Faults(x, c); len(f) > 0 {
				t.Fatal(f)
			}
			e := tree.Entries(x, api.Range{})
			if len(e) != len(want) {
				t.Fatalf("%+v: %d entries, want %d", m, len(e), len(want))
			}
			for _, y := range e {
				if want[y.Key] != y.Value {
					t.Fatalf("%+v: another meaning of %q", m, y.Key)
				}
			}
			if !w.Done() {
				continue
			}
			delete(writes, who)
			if err := w.Reply().Err; err != api.OK {
				full++
				if err != api.ErrFull || s.Left() > 1 || w.Effect() != 0 {
					t.Fatal(err, s.Left(), w.Effect())
				}
			} else if w.Effect() == 0 {
				t.Fatal("it took no effect")
			}
		}
		for i, x := range s.Words() {
			if x.Owner != 0 {
				t.Fatal(i, "is held in the end")
			}
		}
	}
	t.Log(full, "were refused")
}
