package trace_test

import (
	"maps"
	"math"
	"math/rand/v2"
	"slices"
	"strings"
	"testing"

	"catchment/api"
	"catchment/engine"
	"catchment/sample"
	"catchment/trace"
)

const words = "none begun read held blocked freed bumped failed poured cut grown welded shared sunk sent checked answered"

func mv(who int, what api.What, node int) api.Move {
	return api.Move{Session: who, What: what, Node: node}
}

// P36.1
func TestWords(t *testing.T) {
	l := strings.Split(words, " ")
	for w := range 256 {
		want := ""
		if w < len(l) {
			want = l[w]
		}
		if got := trace.Word(api.What(w)); got != want {
			t.Errorf("Word(%d) = %q", w, got)
		}
	}
}

func TestPrintAndParse(t *testing.T) {
	if got, err := trace.Print([]api.Move{{Session: 1, What: api.Held, Node: 2, Version: 7}}); got != "1 held 2 7 0\n" || err != api.OK {
		t.Errorf("the example: %q, %d", got, err)
	}
	l := []api.Move{{}, {Session: api.MaxNum, What: api.Answered, Node: api.MaxNum, Version: api.MaxTags, Err: api.MaxNum}, {Session: 1, What: api.Begun, Err: api.ErrFull}}
	s := "0 none 0 0 0\n2147483647 answered 2147483647 1099511627776 2147483647\n1 begun 0 0 9\n"
	if got, err := trace.Print(l); got != s || err != api.OK {
		t.Errorf("%q, %d", got, err)
	}
	if got, line, err := trace.Parse(s); !slices.Equal(got, l) || line != 0 || err != api.OK {
		t.Errorf("%+v, %d, %d", got, line, err)
	}
	if got, err := trace.Print(nil); got != "" || err != api.OK {
		t.Error("none", err)
	}
	if got, line, err := trace.Parse(""); len(got) != 0 || line != 0 || err != api.OK {
		t.Error("none", line, err)
	}
	for i, m := range []api.Move{{Session: -1}, {Session: api.MaxNum + 1}, {What: 17}, {What: 255}, {Node: -1}, {Node: api.MaxNum + 1}, {Version: -1}, {Version: api.MaxTags + 1}, {Err: -1}, {Err: api.MaxNum + 1}, {Node: math.MinInt}} {
		if got, err := trace.Print([]api.Move{{}, m}); got != "" || err != api.ErrForm {
			t.Errorf("case %d: %q, %d", i, got, err)
		}
	}
	ok := "1 held 2 7 0\n"
	for _, x := range []struct {
		s    string
		line int
		want api.Errno
	}{
		{"1 held 2 7 0", 1, api.ErrEnd}, {ok + "x", 2, api.ErrEnd}, {"\n", 1, api.ErrForm}, {ok + "\n", 2, api.ErrForm}, {"1 held 2 7\n", 1, api.ErrForm}, {"1 held 2 7 0 0\n", 1, api.ErrForm}, {"1 held 2 7 0 \n", 1, api.ErrForm},
		{"1 hold 2 7 0\n", 1, api.ErrForm}, {"1  2 7 0\n", 1, api.ErrForm}, {"01 held 2 7 0\n", 1, api.ErrForm}, {"-1 held 2 7 0\n", 1, api.ErrForm}, {"-0 held 2 7 0\n", 1, api.ErrForm}, {"1 held +2 7 0\n", 1, api.ErrForm}, {"1 held 2 7 x\n", 1, api.ErrForm},
		{"2147483648 held 2 7 0\n", 1, api.ErrForm}, {"1 held 2147483648 7 0\n", 1, api.ErrForm}, {"1 held 2 1099511627777 0\n", 1, api.ErrForm}, {"1 held 2 7 2147483648\n", 1, api.ErrForm}, {"99999999999999999999 held 2 7 0\n", 1, api.ErrForm},
		{ok + ok + "1 held 2 7 0\r\n", 3, api.ErrForm}, {"1 Held 2 7 0\n", 1, api.ErrForm},
	} {
		if got, line, err := trace.Parse(x.s); len(got) != 0 || line != x.line || err != x.want {
			t.Errorf("%q: %d at line %d, want %d at %d", x.s, err, line, x.want, x.line)
		}
	}
}

// P36.2
func TestPicked(t *testing.T) {
	l := []api.Move{mv(1, api.Begun, 0), mv(2, api.Begun, 0), mv(1, api.Held, 3), mv(2, api.Blocked, 3), mv(1, api.Answered, 0), mv(1, api.Nothing, 0), mv(1, api.Begun, 0), mv(1, api.Answered, 0), mv(2, api.Answered, 0), mv(1, api.Begun, 0), mv(1, api.Read, 1)}
	if trace.Count(l, api.Begun) != 4 || trace.Count(l, api.Sunk) != 0 || trace.Count(nil, api.Begun) != 0 || trace.Count(l, api.Nothing) != 1 {
		t.Error("Count")
	}
	if got := trace.Of(l, 2); !slices.Equal(got, []api.Move{l[1], l[3], l[8]}) || len(trace.Of(l, 9)) != 0 {
		t.Error("Of", got)
	}
	if got := trace.At(l, 3); !slices.Equal(got, l[2:4]) || len(trace.At(l, 9)) != 0 {
		t.Error("At", got)
	}
	trace.At(l, 3)[0].Node = 99
	if l[2].Node != 3 {
		t.Error("an answer lies in what was handed in")
	}
	if got := trace.Rounds(l, 1); !slices.Equal(got, []int{3, 2}) {
		t.Error("Rounds", got)
	}
	if got := trace.Rounds(l, 2); !slices.Equal(got, []int{3}) {
		t.Error("Rounds", got)
	}
	if got := trace.Rounds([]api.Move{mv(1, api.Begun, 0), mv(1, api.Answered, 0), mv(1, api.Read, 0), mv(1, api.Answered, 0)}, 1); !slices.Equal(got, []int{2}) {
		t.Error("Rounds of one that was answered twice", got)
	}
	if got := trace.Rounds([]api.Move{mv(1, api.Answered, 0), mv(1, api.Read, 0)}, 1); len(got) != 0 {
		t.Error("Rounds of one that was not begun", got)
	}
}

// P36.3
func TestHeld(t *testing.T) {
	h := func(l ...int) map[int]int {
		m := map[int]int{}
		for i := 0; i < len(l); i += 2 {
			m[l[i]] = l[i+1]
		}
		return m
	}
	held := []api.Move{mv(1, api.Held, 1), mv(1, api.Held, 5), mv(1, api.Held, 7), mv(2, api.Held, 9)}
	for i, x := range []struct {
		more []api.Move
		want map[int]int
		bad  int
	}{
		{nil, h(1, 1, 5, 1, 7, 1, 9, 2), 0},
		{[]api.Move{mv(1, api.Freed, 5), mv(2, api.Bumped, 9)}, h(1, 1, 7, 1), 0},
		{[]api.Move{mv(2, api.Held, 5)}, h(1, 1, 5, 1, 7, 1, 9, 2), 5},
		{[]api.Move{mv(1, api.Held, 5)}, h(1, 1, 5, 1, 7, 1, 9, 2), 5},
		{[]api.Move{mv(1, api.Freed, 5), mv(1, api.Freed, 5), mv(1, api.Freed, 7)}, h(1, 1, 7, 1, 9, 2), 6},
		{[]api.Move{mv(2, api.Bumped, 5)}, h(1, 1, 5, 1, 7, 1, 9, 2), 5},
		{[]api.Move{mv(1, api.Welded, 5)}, h(1, 1, 5, 1, 9, 2), 0},
		{[]api.Move{mv(1, api.Welded, 7)}, h(1, 1, 7, 1, 9, 2), 0},
		{[]api.Move{mv(1, api.Welded, 1)}, h(1, 1, 5, 1, 9, 2), 0},
		{[]api.Move{mv(1, api.Freed, 7), mv(1, api.Welded, 5)}, h(1, 1, 5, 1, 9, 2), 0},
		{[]api.Move{mv(1, api.Freed, 1), mv(1, api.Welded, 7)}, h(5, 1, 7, 1, 9, 2), 0},
		{[]api.Move{mv(1, api.Sunk, 1)}, h(1, 1, 9, 2), 0},
		{[]api.Move{mv(2, api.Sunk, 1)}, h(1, 1, 5, 1, 7, 1, 9, 2), 5},
		{[]api.Move{mv(1, api.Poured, 5), mv(1, api.Cut, 5), mv(1, api.Shared, 5), mv(1, api.Grown, 1), mv(1, api.Sent, 1)}, h(1, 1, 5, 1, 7, 1, 9, 2), 0},
		{[]api.Move{mv(2, api.Poured, 5)}, h(1, 1, 5, 1, 7, 1, 9, 2), 5}, {[]api.Move{mv(1, api.Cut, 6)}, h(1, 1, 5, 1, 7, 1, 9, 2), 5}, {[]api.Move{mv(1, api.Shared, 9)}, h(1, 1, 5, 1, 7, 1, 9, 2), 5},
		{[]api.Move{mv(2, api.Grown, 1)}, h(1, 1, 5, 1, 7, 1, 9, 2), 5}, {[]api.Move{mv(2, api.Sent, 1)}, h(1, 1, 5, 1, 7, 1, 9, 2), 5}, {[]api.Move{mv(2, api.Welded, 5)}, h(1, 1, 5, 1, 7, 1, 9, 2), 5},
		{[]api.Move{mv(2, api.Blocked, 5), mv(2, api.Read, 4), mv(2, api.Failed, 4), mv(2, api.Checked, 4), mv(3, api.Begun, 0), mv(3, api.Answered, 0), mv(3, api.Nothing, 0)}, h(1, 1, 5, 1, 7, 1, 9, 2), 0},
	} {
		got, bad := trace.Held(append(slices.Clone(held), x.more...))
		if !maps.Equal(got, x.want) || bad != x.bad {
			t.Errorf("case %d: %v, %d, want %v, %d", i, got, bad, x.want, x.bad)
		}
	}
	if got, bad := trace.Held(nil); len(got) != 0 || bad != 0 {
		t.Error("of none", got, bad)
	}
}

// P36.4, P36.5
func TestMachines(t *testing.T) {
	r := rand.New(rand.NewPCG(1, 1))
	seen := map[api.What]int{}
	for range 25 {
		x := api.Script{Config: sample.Sizes()}
		x.Config.Buffer, x.Config.Leaf = r.IntN(60), 4
		for range 3 {
			var row []api.Op
			for range 40 {
				k := sample.Key(r.IntN(50))
				o := api.Op{Kind: api.Get, Key: k}
				if r.IntN(3) > 0 {
					o = api.Op{Kind: api.Send, Batch: []api.Msg{{Kind: api.Put, Key: k}, {Kind: api.Clear, Key: sample.Key(r.IntN(50)), To: "zz"}, {Kind: api.Put, Key: sample.Key(r.IntN(50))}}}
					if r.IntN(3) > 0 {
						o.Batch = append(o.Batch[:1], o.Batch[2:]...)
					}
				}
				row = append(row, o)
			}
			x.Ops = append(x.Ops, row)
		}
		e, err := engine.New(x)
		if err != api.OK {
			t.Fatal(err)
		}
		for n := 0; !e.Idle(); n++ {
			m, _ := e.Pick(1 + r.IntN(3))
			seen[m.What]++
			if n%13 != 0 && m.What != api.Welded && m.What != api.Sunk {
				continue
			}
			held, bad := trace.Held(e.Moves())
			want := map[int]int{}
			for i, w := range e.Words() {
				if w.Owner != 0 {
					want[i] = w.Owner
				}
			}
			if bad != 0 || !maps.Equal(held, want) {
				t.Fatalf("%+v: held %v, want %v, first that can't be %d", m, held, want, bad)
			}
		}
		l := e.Moves()
		s, err := trace.Print(l)
		if back, line, err2 := trace.Parse(s); err != api.OK || err2 != api.OK || line != 0 || !slices.Equal(back, l) {
			t.Fatal(err, err2, line)
		}
		n := 0
		for who := range 3 {
			n += len(trace.Of(l, who+1))
			rounds := trace.Rounds(l, who+1)
			i := 0
			for _, d := range e.Done() {
				if d.Session == who+1 {
					if mine := trace.Of(l[d.Call-1:d.Back], who+1); len(mine) != rounds[i] {
						t.Fatal("Rounds", rounds[i], len(mine))
					}
					i++
				}
			}
		}
		if n != len(l) {
			t.Fatal("the moves of all sessions are not all moves")
		}
	}
	if seen[api.Welded] == 0 || seen[api.Shared] == 0 {
		t.Error(seen)
	}
}
