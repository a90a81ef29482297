package engine_test

import (
	"math"
	"math/rand/v2"
	"reflect"
	"slices"
	"testing"

	"catchment/api"
	"catchment/engine"
	"catchment/key"
	"catchment/model"
	"catchment/room"
	"catchment/sample"
	"catchment/shape"
	"catchment/tree"
)

var sizes = api.Config{Key: 4, Value: 16, Fanout: 4, Buffer: 40, Leaf: 4, Block: 2, Nodes: 200, Budget: 3, Chunk: 2}

func put(k, v string) api.Msg { return api.Msg{Kind: api.Put, Key: k, Value: v} }

func send(l ...api.Msg) api.Op { return api.Op{Kind: api.Send, Batch: l} }

func fresh(t *testing.T, ops ...[]api.Op) *engine.Engine {
	t.Helper()
	e, err := engine.New(api.Script{Config: sizes, Ops: ops})
	if e == nil || err != api.OK {
		t.Fatal(err)
	}
	return e
}

// picks picks sessions, and holds the moves against what they should be.
func picks(t *testing.T, e *engine.Engine, want ...api.Move) {
	t.Helper()
	for i, w := range want {
		if m, err := e.Pick(w.Session); m != w || err != api.OK {
			t.Fatalf("pick %d: %+v, %d, want %+v", i, m, err, w)
		}
	}
}

func mv(who int, what api.What, more ...int) api.Move {
	m := api.Move{Session: who, What: what}
	if len(more) > 0 {
		m.Node = more[0]
	}
	if len(more) > 1 {
		m.Version = more[1]
	}
	return m
}

// P29.1
func TestNewAndPick(t *testing.T) {
	bad := sizes
	bad.Chunk = 0
	for _, x := range []api.Script{{Config: bad, Ops: make([][]api.Op, 1)}, {Config: sizes}, {Config: sizes, Ops: make([][]api.Op, api.MaxSessions+1)}, {}} {
		if e, err := engine.New(x); e != nil || err != api.ErrArg {
			t.Errorf("New: %d", err)
		}
		if e, err := engine.Play(x); e != nil || err != api.ErrArg {
			t.Errorf("Play: %d", err)
		}
	}
	e, err := engine.New(api.Script{Config: sizes, Ops: make([][]api.Op, api.MaxSessions), Picks: []int{1, 2}})
	if err != api.OK || e.Picks() != 0 || len(e.Moves()) != 0 || !e.Idle() || len(tree.Entries(e.Tree(), api.Range{})) != 0 || e.Left() != 198 {
		t.Error("a new machine")
	}
	for _, who := range []int{0, -1, api.MaxSessions + 1, math.MinInt, math.MaxInt} {
		if m, err := e.Pick(who); m != (api.Move{}) || err != api.ErrArg || e.Picks() != 0 {
			t.Errorf("Pick(%d): %+v, %d", who, m, err)
		}
	}
	picks(t, e, mv(64, api.Nothing))
	if e.Picks() != 1 || len(e.Moves()) != 1 {
		t.Error("a pick that does nothing is one")
	}
}

func TestExamples(t *testing.T) {
	x := api.Script{Config: sizes, Ops: [][]api.Op{{send(put("a", "x")), {Kind: api.Get, Key: "a"}}}}
	e := fresh(t, x.Ops...)
	x.Ops[0][0].Batch[0].Key = "spoilt"
	want := []api.Move{mv(1, api.Begun), mv(1, api.Held, 1), mv(1, api.Sent, 1, 1), mv(1, api.Bumped, 1, 1), mv(1, api.Answered),
		mv(1, api.Begun), mv(1, api.Read, 1, 1), mv(1, api.Read, 2), mv(1, api.Answered), mv(1, api.Nothing)}
	for i, w := range want {
		if e.Idle() != (i == 9) || !slices.Equal(e.Pending(), map[bool][]int{true: {1}}[i > 0 && i != 5 && i != 9]) {
			t.Errorf("ahead of pick %d: Idle %v, Pending %v", i, e.Idle(), e.Pending())
		}
		picks(t, e, w)
	}
	done := []api.Done{
		{Session: 1, N: 1, Op: send(put("a", "x")), Call: 1, Point: 3, Back: 5},
		{Session: 1, N: 2, Op: api.Op{Kind: api.Get, Key: "a"}, Call: 6, Point: 8, Back: 9, Reply: api.Reply{Found: true, Value: "x"}},
	}
	if got := e.Done(); !reflect.DeepEqual(got, done) {
		t.Errorf("%+v", got)
	}
	if !slices.Equal(e.Moves(), want) || e.Picks() != 10 || e.Stamp() != 1 || len(e.Waits()) != 0 || e.Words()[1].Version != 1 {
		t.Error("what is told")
	}
	e.Done()[0].Op.Batch[0].Key, e.Moves()[0].Session = "spoilt", 9
	if !reflect.DeepEqual(e.Done(), done) || e.Moves()[0].Session != 1 {
		t.Error("what is told is kept")
	}
	// Session 2 gets a while 1 holds the root.
	e = fresh(t, []api.Op{send(put("a", "1"), put("b", "2"))}, []api.Op{{Kind: api.Get, Key: "a"}})
	picks(t, e, mv(1, api.Begun), mv(2, api.Begun), mv(1, api.Held, 1), mv(2, api.Blocked, 1), mv(1, api.Sent, 1, 1), mv(2, api.Blocked, 1), mv(1, api.Bumped, 1, 1), mv(2, api.Read, 1, 1))
	if d := e.Done(); d[0].Point != 5 || d[0].Back != 0 || d[1].Point != 0 || d[1].Reply.Found {
		t.Errorf("%+v", d)
	}
	// With another Send ahead of its second step it fails, and takes effect later.
	f := e.Fork()
	picks(t, e, mv(2, api.Read, 2), mv(2, api.Answered))
	if d := e.Done()[1]; d.Point != 9 || d.Back != 10 || d.Reply.Value != "1" {
		t.Errorf("%+v", d)
	}
	if d := f.Done()[1]; d.Point != 0 || d.Back != 0 || f.Picks() != 8 || !slices.Equal(f.Pending(), []int{1, 2}) {
		t.Error("a machine changed its fork")
	}
}

func TestRefusals(t *testing.T) {
	few := sizes
	few.Nodes, few.Buffer, few.Budget = 2, 0, 0
	var l []api.Msg
	for _, k := range []string{"a", "b", "c", "d", "e"} {
		l = append(l, put(k, "v"))
	}
	e, _ := engine.New(api.Script{Config: few, Ops: [][]api.Op{{send(l...), send(put("f", "v")), send(put("g", "v"))}, {{Kind: api.Get, Key: "a"}}}})
	for range 40 {
		e.Pick(1)
	}
	d := e.Done()
	if len(d) != 3 || d[0].Reply.Err != api.OK || d[1].Reply.Err != api.OK || d[2].Reply.Err != api.ErrFull || d[2].Point != 0 || d[2].Back == 0 {
		t.Errorf("%+v", d)
	}
	if n := len(tree.Entries(e.Tree(), api.Range{})); n != 6 {
		t.Error("what is refused is there", n)
	}
	m := e.Moves()
	if i := slices.IndexFunc(m, func(m api.Move) bool { return m.What == api.Answered && m.Err == api.ErrFull }); i < 0 {
		t.Error("Answered has no error")
	}
	// without budget
	few.Nodes = 100
	e, _ = engine.New(api.Script{Config: few, Ops: [][]api.Op{{send(put("a", "v"))}, {{Kind: api.Get, Key: "a"}, {Kind: api.Look, N: 1}}}})
	picks(t, e, mv(2, api.Begun), mv(2, api.Read, 1), mv(1, api.Begun), mv(1, api.Held, 1), mv(1, api.Sent, 1, 1), mv(1, api.Bumped, 1, 1), mv(2, api.Failed, 1))
	busy := mv(2, api.Answered)
	busy.Err = api.ErrBusy
	picks(t, e, busy)
	if d := e.Done()[0]; d.Point != 0 || d.Back != 8 || d.Reply.Err != api.ErrBusy {
		t.Errorf("%+v", d)
	}
}

func TestKnownAtOnce(t *testing.T) {
	e := fresh(t, []api.Op{
		{Kind: api.Get}, {Kind: api.Next, N: 1}, {Kind: api.Close, N: 1}, {Kind: api.Open, Key: "b", To: "a"}, {}, {Kind: api.Open},
		{Kind: api.Next, N: 1}, {Kind: api.Next, N: 1}, {Kind: api.Close, N: 1}, {Kind: api.Close, N: 1}, {Kind: api.Open}, send(put("", "")),
	})
	for !e.Idle() {
		e.Pick(1)
	}
	var errs []api.Errno
	for i, d := range e.Done() {
		errs = append(errs, d.Reply.Err)
		if i != 6 && (d.Point != d.Call || d.Back != d.Call+1) {
			t.Errorf("%+v did not take effect at once", d)
		}
	}
	if want := []api.Errno{api.ErrSize, api.ErrCursor, api.ErrCursor, api.ErrRange, api.ErrForm, 0, 0, 0, 0, api.ErrCursor, 0, api.ErrSize}; !slices.Equal(errs, want) {
		t.Error(errs)
	}
	d := e.Done()
	if d[5].Reply.N != 1 || d[10].Reply.N != 2 || !d[6].Reply.End || d[6].Point == d[6].Call || !d[7].Reply.End || len(d[7].Reply.Entries) != 0 {
		t.Errorf("%+v", d)
	}
	if m := e.Moves()[1]; m.What != api.Answered || m.Err != api.ErrSize || m.Node != 0 {
		t.Errorf("%+v", m)
	}
}

func TestCursorsTakeWhenAnswered(t *testing.T) {
	e := fresh(t, []api.Op{send(put("a", "1"), put("b", "2")), send(put("c", "3")), {Kind: api.Open}, {Kind: api.Next, N: 1}, {Kind: api.Next, N: 1}, {Kind: api.Next, N: 1}, {Kind: api.Look, Key: "b", N: 2}})
	for !e.Idle() {
		e.Pick(1)
	}
	d := e.Done()
	if len(d[3].Reply.Entries) != 2 || d[3].Reply.End || len(d[4].Reply.Entries) != 1 || !d[4].Reply.End || len(d[5].Reply.Entries) != 0 || !d[5].Reply.End {
		t.Errorf("%+v", d[3:6])
	}
	if l := d[6].Reply.Entries; len(l) != 2 || l[0].Key != "b" || l[1].Value != "3" {
		t.Errorf("%+v", d[6])
	}
}

func TestStop(t *testing.T) {
	e := fresh(t, []api.Op{{Kind: api.Get, Key: "a"}, {Kind: api.Get, Key: "b"}}, []api.Op{{Kind: api.Get, Key: "a"}})
	picks(t, e, mv(1, api.Begun))
	e.Stop()
	picks(t, e, mv(2, api.Nothing), mv(1, api.Read, 1), mv(1, api.Read, 2))
	if e.Idle() {
		t.Error("idle, though something is pending")
	}
	picks(t, e, mv(1, api.Answered), mv(1, api.Nothing))
	if !e.Idle() || len(e.Done()) != 1 {
		t.Error("an operation was begun behind Stop")
	}
}

// P29.2
func TestNil(t *testing.T) {
	var e *engine.Engine
	if m, err := e.Pick(1); m != (api.Move{}) || err != api.ErrNil {
		t.Error("Pick", err)
	}
	e.Stop()
	if e.Picks() != 0 || len(e.Done()) != 0 || len(e.Moves()) != 0 || len(e.Pending()) != 0 || !e.Idle() || len(e.Tree().Nodes) != 0 || len(e.Words()) != 0 ||
		e.Stamp() != 0 || e.Left() != 0 || len(e.Waits()) != 0 || e.Fork() != nil {
		t.Error("nil")
	}
}

// script is a script of many kinds of operations.
func script(r *rand.Rand, sessions, ops int) api.Script {
	x := api.Script{Config: sizes}
	x.Config.Buffer, x.Config.Budget, x.Config.Chunk, x.Config.Nodes = r.IntN(90), r.IntN(5), 2+r.IntN(4), 200
	k := func() string { return sample.Key(r.IntN(40)) }
	for range sessions {
		var row []api.Op
		for range ops {
			o := api.Op{}
			switch r.IntN(12) {
			case 0, 1, 2:
				o = api.Op{Kind: api.Get, Key: k()}
			case 3, 4, 5, 6:
				o.Kind = api.Send
				for range 1 + r.IntN(4) {
					m := put(k(), "v")
					switch r.IntN(9) {
					case 0, 1:
						m = api.Msg{Kind: api.Delete, Key: m.Key}
					case 2:
						m = api.Msg{Kind: api.Add, Key: m.Key, Delta: 5}
					case 3:
						m = api.Msg{Kind: api.Clear, Key: m.Key, To: m.Key + "z"}
					}
					o.Batch = append(o.Batch, m)
				}
			case 7:
				o = api.Op{Kind: api.Look, Key: k(), N: 1 + r.IntN(2)}
			case 8:
				o = api.Op{Kind: api.Open, Key: sample.Key(r.IntN(9))}
			case 9, 10:
				o = api.Op{Kind: api.Next, N: 1 + r.IntN(2)}
			case 11:
				o = api.Op{Kind: api.OpKind(r.IntN(8)), N: r.IntN(3), Key: []string{"", "a", "toolong"}[r.IntN(3)]}
			}
			row = append(row, o)
		}
		x.Ops = append(x.Ops, row)
	}
	return x
}

// explained holds a history against the model, in the order of its Points.
func explained(t *testing.T, x api.Script, l []api.Done) *model.Model {
	t.Helper()
	var points []api.Done
	for _, d := range l {
		if d.Point > 0 {
			points = append(points, d)
		}
		if d.Call < 1 || d.Point != 0 && d.Point < d.Call || d.Back != 0 && d.Back < d.Point {
			t.Fatalf("%+v", d)
		}
		if d.Back != 0 && model.Refused(d.Reply) != (d.Point == 0) {
			t.Fatalf("%+v", d)
		}
		if d.Back == 0 && !model.Same(d.Reply, api.Reply{}) {
			t.Fatalf("%+v", d)
		}
	}
	slices.SortFunc(points, func(a, b api.Done) int { return a.Point - b.Point })
	m, err := model.New(x.Config, len(x.Ops))
	if err != api.OK {
		t.Fatal(err)
	}
	for i, d := range points {
		if i > 0 && points[i-1].Point == d.Point {
			t.Fatal("two Points at one pick")
		}
		if d.Back == 0 && d.Op.Kind != api.Send {
			continue
		}
		if r := m.Do(d.Session, d.Op); d.Back != 0 && !model.Same(r, d.Reply) {
			t.Fatalf("%+v, want %+v", d, r)
		}
	}
	return m
}

// P29.3 to P29.8
func TestWhatFollows(t *testing.T) {
	r := rand.New(rand.NewPCG(1, 1))
	seen, answered := map[api.What]int{}, map[api.OpKind]int{}
	for round := range 60 {
		x := script(r, 1+r.IntN(4), 30)
		if round%10 == 0 {
			x.Ops = x.Ops[:1]
		}
		if round%3 == 0 {
			x.Config.Nodes = 2 + r.IntN(6)
		}
		full := room.Enough(x.Config, x.Ops)
		e, err := engine.New(x)
		if err != api.OK {
			t.Fatal(err)
		}
		read := map[[2]int]int{}
		for n := 0; !e.Idle() && n < 2500; n++ {
			if n == 1800 {
				e.Stop()
			}
			who := 1 + r.IntN(len(x.Ops))
			words, before := e.Words(), tree.Entries(e.Tree(), api.Range{})
			m, err := e.Pick(who)
			if err != api.OK || m.Session != who || e.Picks() != n+1 {
				t.Fatal(err, m)
			}
			seen[m.What]++
			switch m.What {
			case api.Welded, api.Sunk:
				// Who did it is in: what is gone waits.
				if w := e.Waits(); len(w) == 0 || !e.Words()[w[len(w)-1]].Gone {
					t.Fatal("Waits", w)
				}
			case api.Read:
				read[[2]int{who, m.Node}] = m.Version
			case api.Blocked:
				if w := words[m.Node]; w.Owner == 0 || w.Owner == who {
					t.Fatalf("%+v, whose owner is %d", m, w.Owner)
				}
			case api.Failed:
				if w := words[m.Node]; !w.Gone && w.Version == read[[2]int{who, m.Node}] {
					t.Fatalf("%+v, which has the version it was read with", m)
				}
			}
			if len(x.Ops) == 1 && (m.What == api.Blocked || m.What == api.Failed) {
				t.Fatal("a session alone is blocked, or fails")
			}
			now := e.Tree()
			if f := shape.Faults(now, x.Config); len(f) > 0 {
				t.Fatal(f)
			}
			entries := tree.Entries(now, api.Range{})
			if m.What != api.Sent && !slices.Equal(entries, before) {
				t.Fatalf("%+v changed the meaning", m)
			}
			if n%7 == 0 || m.What == api.Sent {
				if want := explained(t, x, e.Done()).Entries(); !slices.Equal(entries, want) {
					t.Fatalf("%+v: %q, want %q", m, entries, want)
				}
			}
		}
		e.Stop()
		for n := 0; !e.Idle(); n++ {
			for who := range x.Ops {
				e.Pick(who + 1)
			}
			if n > 5000 {
				t.Fatal("it does not come to its end")
			}
		}
		explained(t, x, e.Done())
		for i, w := range e.Words() {
			if w.Owner != 0 {
				t.Fatal(i, "is held in the end")
			}
		}
		if len(e.Waits()) != 0 || len(e.Pending()) != 0 {
			t.Fatal("somebody is in in the end", e.Waits())
		}
		for _, d := range e.Done() {
			if answered[d.Op.Kind]++; d.Reply.Err == api.ErrFull && full {
				t.Fatal("there were nodes enough")
			}
		}
		again, _ := engine.New(x)
		for _, m := range e.Moves() {
			if len(again.Done()) == len(e.Done()) {
				again.Stop()
			}
			again.Pick(m.Session)
		}
		if !reflect.DeepEqual(again.Tree(), e.Tree()) {
			t.Fatal("the same picks do something else")
		}
	}
	for w := api.Nothing; w <= api.Answered; w++ {
		if seen[w] == 0 && w != api.Sunk {
			t.Error("never seen:", w)
		}
	}
	for k := api.Get; k <= api.Next; k++ {
		if answered[k] == 0 {
			t.Error("never asked:", k)
		}
	}
}

// same: are two machines alike in all that they tell?
func same(a, b *engine.Engine) bool {
	return reflect.DeepEqual(a.Done(), b.Done()) && slices.Equal(a.Moves(), b.Moves()) && reflect.DeepEqual(a.Tree(), b.Tree()) && slices.Equal(a.Words(), b.Words()) &&
		slices.Equal(a.Waits(), b.Waits()) && slices.Equal(a.Pending(), b.Pending()) && a.Picks() == b.Picks() && a.Stamp() == b.Stamp() && a.Left() == b.Left() && a.Idle() == b.Idle()
}

// P29.1, P29.2
func TestPlayAndFork(t *testing.T) {
	r := rand.New(rand.NewPCG(3, 3))
	picks := func(n int) []int {
		var l []int
		for range n {
			l = append(l, r.IntN(5)) // 0 and 4 are no sessions
		}
		return l
	}
	play := func(x api.Script, picks ...[]int) *engine.Engine {
		x.Picks = slices.Concat(picks...)
		e, err := engine.Play(x)
		if err != api.OK {
			t.Fatal(err)
		}
		return e
	}
	for range 80 {
		x := script(r, 3, 12)
		first, one, two := picks(r.IntN(300)), picks(200), picks(200)
		e := play(x, first)
		f := e.Fork()
		if !same(e, f) || !same(e, play(x, first)) {
			t.Fatal("a fork, or the same picks once more")
		}
		for i := range one {
			e.Pick(one[i])
			f.Pick(two[i])
		}
		if !same(e, play(x, first, one)) || !same(f, play(x, first, two)) {
			t.Fatal("a machine and its fork do not go on by themselves")
		}
		f.Stop()
		if e.Idle() != play(x, first, one).Idle() {
			t.Fatal("a fork stopped its machine")
		}
	}
}

// P29.6
func TestCursorsBesideWriters(t *testing.T) {
	r := rand.New(rand.NewPCG(2, 2))
	for range 30 {
		x := api.Script{Config: sizes}
		x.Config.Budget, x.Config.Chunk = 1000, 3
		// The even keys stay as they are, the odd ones come and go, others are never there.
		var even []api.Msg
		for i := 0; i < 24; i += 2 {
			even = append(even, put(sample.Key(i), "stays"))
		}
		var writer []api.Op
		for range 40 {
			m := put(sample.Key(1+2*r.IntN(12)), "goes")
			if r.IntN(2) == 0 {
				m = api.Msg{Kind: api.Delete, Key: m.Key}
			}
			writer = append(writer, send(m, put(sample.Key(30), "behind")))
		}
		reader := []api.Op{{Kind: api.Open, To: sample.Key(24)}}
		for range 12 {
			reader = append(reader, api.Op{Kind: api.Next, N: 1})
		}
		x.Ops = [][]api.Op{append([]api.Op{send(even...)}, writer...), reader}
		e, _ := engine.New(x)
		for len(e.Done()) < 2 {
			e.Pick(1)
		}
		for !e.Idle() {
			e.Pick(1 + r.IntN(2))
		}
		last, told := "", map[string]int{}
		for _, d := range e.Done() {
			for _, y := range d.Reply.Entries {
				if y.Key <= last || key.Before(sample.Key(24), y.Key) {
					t.Fatalf("%q behind %q", y.Key, last)
				}
				last = y.Key
				told[y.Key]++
			}
		}
		for i := range 24 {
			if n := told[sample.Key(i)]; i%2 == 0 && n != 1 || n > 1 {
				t.Fatalf("%q was told %d times", sample.Key(i), n)
			}
		}
	}
}
