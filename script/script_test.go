package script_test

import (
	"math"
	"math/rand/v2"
	"strings"
	"testing"

	"catchment/api"
	"catchment/script"
)

func put(k, v string) api.Msg { return api.Msg{Kind: api.Put, Key: k, Value: v} }

// full is a script with all that there can be, and its text.
func full() (api.Script, string) {
	x := api.Script{
		Config: api.Config{Key: 2, Value: 8, Fanout: 4, Buffer: 0, Leaf: 4, Block: 2, Nodes: 9, Budget: -1, Chunk: api.MaxNum},
		Ops: [][]api.Op{
			{{Kind: api.Send, Batch: []api.Msg{put("a", ""), {Kind: api.Delete, Key: ""}, {Kind: api.Add, Key: "\x00\xff", Delta: math.MaxUint64}, {Kind: api.Clear, Key: "b", To: "a"}}}, {Kind: api.Get, Key: "a"}},
			nil,
			{{Kind: api.Look, Key: "a", To: "", N: -api.MaxNum}, {Kind: api.Open, To: "z"}, {Kind: api.Next, N: 0}, {Kind: api.Close, N: 7}, {Kind: api.Send}},
		},
		Picks: []int{1, 0, -5, api.MaxNum},
	}
	return x, `sizes 2 8 4 0 4 2 9 -1 2147483647
session
send 4
put 61 -
delete -
add 00ff 18446744073709551615
clear 62 61
get 61
session
session
look 61 - -2147483647
open - 7a
next 0
close 7
send 0
picks 1 0 -5 2147483647
`
}

// P33.1
func TestTokens(t *testing.T) {
	for s, want := range map[string]string{"": "-", "a": "61", "\x00\xff\n ": "00ff0a20", "-": "2d"} {
		if got := script.Token(s); got != want {
			t.Errorf("Token(%q) = %q", s, got)
		}
		if got, err := script.FromToken(want); got != s || err != api.OK {
			t.Errorf("FromToken(%q) = %q, %d", want, got, err)
		}
	}
	for _, s := range []string{"", "6", "616", "6A", "6g", "g6", "--", "-6", " 61", "61 ", "0x61", "/0", ":0", "`0"} {
		if got, err := script.FromToken(s); got != "" || err != api.ErrForm {
			t.Errorf("FromToken(%q) = %q, %d", s, got, err)
		}
	}
}

func TestPrint(t *testing.T) {
	x, want := full()
	if got, err := script.Print(x); got != want || err != api.OK {
		t.Errorf("%q, %d", got, err)
	}
	x = api.Script{Config: api.Config{Key: 2, Value: 8, Fanout: 4, Leaf: 4, Block: 2, Nodes: 9, Budget: 1, Chunk: 1}, Ops: [][]api.Op{{{Kind: api.Send, Batch: []api.Msg{put("a", "")}}, {Kind: api.Get, Key: "a"}}}, Picks: []int{1, 1, 1}}
	if got, err := script.Print(x); got != "sizes 2 8 4 0 4 2 9 1 1\nsession\nsend 1\nput 61 -\nget 61\npicks 1 1 1\n" || err != api.OK {
		t.Errorf("the example: %q, %d", got, err)
	}
	if got, err := script.Print(api.Script{}); got != "sizes 0 0 0 0 0 0 0 0 0\npicks\n" || err != api.OK {
		t.Errorf("%q, %d", got, err)
	}
	many := make([]api.Msg, 2*api.MaxChunk+1)
	for i := range many {
		many[i] = put("a", "")
	}
	one := func(o api.Op) api.Script { return api.Script{Ops: [][]api.Op{nil, {{Kind: api.Next}, o}}} }
	msg := func(m api.Msg) api.Script { return one(api.Op{Kind: api.Send, Batch: []api.Msg{put("a", ""), m}}) }
	for i, x := range []struct {
		x    api.Script
		want api.Errno
	}{
		{api.Script{Config: api.Config{Nodes: api.MaxNum + 1}}, api.ErrForm}, {api.Script{Config: api.Config{Chunk: -api.MaxNum - 1}}, api.ErrForm}, {api.Script{Config: api.Config{Key: math.MaxInt}}, api.ErrForm},
		{api.Script{Picks: []int{1, math.MinInt}}, api.ErrForm}, {one(api.Op{}), api.ErrForm}, {one(api.Op{Kind: 7}), api.ErrForm}, {one(api.Op{Kind: api.Next, N: math.MaxInt}), api.ErrForm},
		{one(api.Op{Kind: api.Get, N: 1}), api.ErrForm}, {one(api.Op{Kind: api.Get, To: "a"}), api.ErrForm}, {one(api.Op{Kind: api.Look, Batch: many[:1]}), api.ErrForm},
		{one(api.Op{Kind: api.Send, Key: "a"}), api.ErrForm}, {one(api.Op{Kind: api.Open, N: 1}), api.ErrForm}, {one(api.Op{Kind: api.Close, Key: "a"}), api.ErrForm},
		{msg(api.Msg{}), api.ErrForm}, {msg(api.Msg{Kind: 5}), api.ErrForm}, {msg(api.Msg{Kind: api.Put, Seq: 1}), api.ErrForm}, {msg(api.Msg{Kind: api.Delete, Value: "v"}), api.ErrForm}, {msg(api.Msg{Kind: api.Clear, Delta: 1}), api.ErrForm},
		{one(api.Op{Kind: api.Send, Batch: many[1:]}), api.OK}, {one(api.Op{Kind: api.Send, Batch: many}), api.ErrLimit},
		{api.Script{Picks: []int{math.MaxInt}, Ops: [][]api.Op{{{Kind: api.Send, Batch: many}}}}, api.ErrForm}, {api.Script{Ops: [][]api.Op{{{Kind: api.Send, Batch: many}, {}}}}, api.ErrForm},
		{one(api.Op{Kind: api.Get, Key: strings.Repeat("k", 1<<19)}), api.ErrLimit},
	} {
		if got, err := script.Print(x.x); err != x.want || (got == "") != (err != api.OK) {
			t.Errorf("case %d: %d, want %d", i, err, x.want)
		}
	}
	// just as long as may be: two digits a byte, and what stands around
	longest := 0
	for i := range 4 {
		more, want := i%2, []api.Errno{api.OK, api.ErrLimit}[i%2]
		n := []int{1, 10}[i/2] // one digit more, so that one of both fits to the byte
		rest, _ := script.Print(one(api.Op{Kind: api.Look, Key: "k", N: n}))
		key := strings.Repeat("k", (1<<20-len(rest))/2+1+more)
		got, err := script.Print(one(api.Op{Kind: api.Look, Key: key, N: n}))
		if err != want {
			t.Errorf("%d bytes: %d, want %d", len(got), err, want)
		}
		longest = max(longest, len(got))
		if y, line, err := script.Parse(got); want == api.OK && (err != api.OK || line != 0 || len(y.Ops) != 2) {
			t.Error("Parse of a long one", line, err)
		}
	}
	if longest != 1<<20 {
		t.Error("the longest one has", longest)
	}
}

// P33.2
func TestParse(t *testing.T) {
	want, s := full()
	if x, line, err := script.Parse(s); !script.Same(x, want) || line != 0 || err != api.OK {
		t.Errorf("%+v, %d, %d", x, line, err)
	}
	sizes := "sizes 2 8 4 0 4 2 9 1 1\n"
	for _, x := range []struct {
		s    string
		line int
		want api.Errno
	}{
		{"", 1, api.ErrEnd}, {"sizes 2 8 4 0 4 2 9 1 1", 1, api.ErrEnd}, {"wrong", 1, api.ErrEnd}, {"\n", 1, api.ErrForm}, {"sizes 2 8 4 0 4 2 9 1\n", 1, api.ErrForm}, {"sizes 2 8 4 0 4 2 9 1 1 1\n", 1, api.ErrForm},
		{"sizes  2 8 4 0 4 2 9 1 1\n", 1, api.ErrForm}, {" " + sizes, 1, api.ErrForm}, {"sizes 02 8 4 0 4 2 9 1 1\n", 1, api.ErrForm}, {"sizes -0 8 4 0 4 2 9 1 1\n", 1, api.ErrForm}, {"sizes +2 8 4 0 4 2 9 1 1\n", 1, api.ErrForm},
		{"sizes 2147483648 8 4 0 4 2 9 1 1\n", 1, api.ErrForm}, {"sizes -2147483648 8 4 0 4 2 9 1 1\n", 1, api.ErrForm}, {"sizes 99999999999999999999 8 4 0 4 2 9 1 1\n", 1, api.ErrForm}, {"session\n", 1, api.ErrForm}, {"size 2 8 4 0 4 2 9 1 1\n", 1, api.ErrForm},
		{sizes, 2, api.ErrEnd}, {sizes + "picks", 2, api.ErrEnd}, {sizes + "picks\n", 0, api.OK}, {sizes + "picks \n", 2, api.ErrForm}, {sizes + "picks 1  2\n", 2, api.ErrForm}, {sizes + "picks x\n", 2, api.ErrForm},
		{sizes + "picks\n\n", 3, api.ErrForm}, {sizes + "picks\npicks\n", 3, api.ErrForm}, {sizes + "picks\nx", 3, api.ErrEnd}, {sizes + "get 61\npicks\n", 2, api.ErrForm}, {sizes + "session 1\npicks\n", 2, api.ErrForm},
		{sizes + "session\nget\npicks\n", 3, api.ErrForm}, {sizes + "session\nget 6\npicks\n", 3, api.ErrForm}, {sizes + "session\nget 61 62\npicks\n", 3, api.ErrForm}, {sizes + "session\nget 61 \npicks\n", 3, api.ErrForm},
		{sizes + "session\nlook 61 62\npicks\n", 3, api.ErrForm}, {sizes + "session\nlook 61 62 1\npicks\n", 0, api.OK}, {sizes + "session\nopen 61\npicks\n", 3, api.ErrForm}, {sizes + "session\nnext x\npicks\n", 3, api.ErrForm}, {sizes + "session\nclose\npicks\n", 3, api.ErrForm},
		{sizes + "session\nsend\npicks\n", 3, api.ErrForm}, {sizes + "session\nsend -1\npicks\n", 3, api.ErrForm}, {sizes + "session\nsend 2049\npicks\n", 3, api.ErrLimit}, {sizes + "session\nsend 2048\npicks\n", 4, api.ErrForm}, {sizes + "session\nsend 2147483648\n", 3, api.ErrForm},
		{sizes + "session\nsend 1\npicks\n", 4, api.ErrForm}, {sizes + "session\nsend 1\n", 4, api.ErrEnd}, {sizes + "session\nsend 1\nput 61 -", 4, api.ErrEnd}, {sizes + "session\nsend 1\nput 61\n", 4, api.ErrForm},
		{sizes + "session\nsend 1\nput 61 -\nput 61 -\npicks\n", 5, api.ErrForm}, {sizes + "session\nsend 2\nput 61 -\nget 61\npicks\n", 5, api.ErrForm}, {sizes + "session\nsend 1\nadd 61 -1\npicks\n", 4, api.ErrForm}, {sizes + "session\nsend 1\nadd 61 007\npicks\n", 4, api.ErrForm},
		{sizes + "session\nsend 1\nadd 61 18446744073709551616\npicks\n", 4, api.ErrForm}, {sizes + "session\nsend 1\nclear 61\npicks\n", 4, api.ErrForm}, {sizes + "session\nsend 1\ndelete 61 -\npicks\n", 4, api.ErrForm}, {sizes + "session\nsend 1\nadd 61 0\npicks\n", 0, api.OK},
		{sizes + "session\nsession\npicks", 4, api.ErrEnd}, {sizes + "session\nput 61 -\n", 3, api.ErrForm}, {sizes + "session\r\npicks\n", 2, api.ErrForm}, {strings.Repeat("x", 1<<20+1), 0, api.ErrLimit}, {strings.Repeat("x", 1<<20), 1, api.ErrEnd},
	} {
		got, line, err := script.Parse(x.s)
		if line != x.line || err != x.want {
			t.Errorf("%.60q: %d at line %d, want %d at %d", x.s, err, line, x.want, x.line)
		}
		if err != api.OK && !script.Same(got, api.Script{}) {
			t.Errorf("%.60q: a script beside an error", x.s)
		}
	}
}

// P33.3
func TestCheckAndSame(t *testing.T) {
	sizes := api.Config{Key: 2, Value: 8, Fanout: 4, Leaf: 4, Block: 2, Nodes: 9, Chunk: 1}
	for i, x := range []struct {
		x       api.Script
		session int
		n       int
		want    api.Errno
	}{
		{api.Script{}, 0, 0, api.ErrArg}, {api.Script{Config: sizes}, 0, 0, api.ErrArg}, {api.Script{Config: sizes, Ops: make([][]api.Op, 65)}, 0, 0, api.ErrArg}, {api.Script{Ops: make([][]api.Op, 1)}, 0, 0, api.ErrArg},
		{api.Script{Config: sizes, Ops: make([][]api.Op, 64), Picks: []int{99}}, 0, 0, api.OK},
		{api.Script{Config: sizes, Ops: [][]api.Op{{{Kind: api.Next}}, {{Kind: api.Open}, {Kind: api.Get}}, {{}}}}, 2, 2, api.ErrSize},
		{api.Script{Config: sizes, Ops: [][]api.Op{{{}}, {{Kind: api.Get}}}}, 1, 1, api.ErrForm},
		{api.Script{Config: sizes, Ops: [][]api.Op{{{Kind: api.Look, N: 2}}}}, 1, 1, api.ErrLimit},
	} {
		if s, n, err := script.Check(x.x); s != x.session || n != x.n || err != x.want {
			t.Errorf("case %d: %d, %d, %d", i, s, n, err)
		}
	}
	x, _ := full()
	y, _ := full()
	y.Ops[1] = []api.Op{}
	y.Ops[2][4].Batch = []api.Msg{}
	if !script.Same(x, y) || !script.Same(api.Script{}, api.Script{Ops: [][]api.Op{}, Picks: []int{}}) {
		t.Error("Same")
	}
	for i, change := range []func(x *api.Script){
		func(x *api.Script) { x.Config.Chunk++ }, func(x *api.Script) { x.Picks[0] = 9 }, func(x *api.Script) { x.Picks = x.Picks[1:] }, func(x *api.Script) { x.Ops = x.Ops[:2] }, func(x *api.Script) { x.Ops[1] = x.Ops[0] },
		func(x *api.Script) { x.Ops[0][1].Key = "b" }, func(x *api.Script) { x.Ops[2][1].To = "" }, func(x *api.Script) { x.Ops[2][2].N = 1 }, func(x *api.Script) { x.Ops[2][2].Kind = api.Close }, func(x *api.Script) { x.Ops[0][0].Batch[0].Value = "x" },
		func(x *api.Script) { x.Ops[0][0].Batch = x.Ops[0][0].Batch[1:] },
	} {
		y, _ := full()
		if change(&y); script.Same(x, y) || script.Same(y, x) {
			t.Errorf("case %d", i)
		}
	}
}

// P33.4
func TestComesBack(t *testing.T) {
	r := rand.New(rand.NewPCG(1, 1))
	word := func() string { return []string{"", "a", "\x00", "zz\n", "- "}[r.IntN(5)] }
	for range 500 {
		x := api.Script{Config: api.Config{Key: r.IntN(9), Buffer: -r.IntN(99)}}
		for range r.IntN(4) {
			var row []api.Op
			for range r.IntN(4) {
				o := api.Op{Kind: api.OpKind(1 + r.IntN(6)), Key: word(), To: word(), N: r.IntN(9) - 4}
				switch o.Kind {
				case api.Get:
					o.To, o.N = "", 0
				case api.Open:
					o.N = 0
				case api.Next, api.Close:
					o.Key, o.To = "", ""
				case api.Send:
					o = api.Op{Kind: api.Send}
					for range r.IntN(4) {
						o.Batch = append(o.Batch, []api.Msg{put(word(), word()), {Kind: api.Delete, Key: word()}, {Kind: api.Add, Key: word(), Delta: r.Uint64()}, {Kind: api.Clear, Key: word(), To: word()}}[r.IntN(4)])
					}
				}
				row = append(row, o)
			}
			x.Ops = append(x.Ops, row)
		}
		for range r.IntN(5) {
			x.Picks = append(x.Picks, r.IntN(99)-50)
		}
		s, err := script.Print(x)
		if err != api.OK {
			t.Fatal(err)
		}
		if y, line, err := script.Parse(s); !script.Same(x, y) || line != 0 || err != api.OK {
			t.Fatalf("%q: %d at line %d", s, err, line)
		}
		// Of a text with a fault what can be read is printed as that text.
		b := []byte(s)
		b[r.IntN(len(b))] = "0 1\n-psg"[r.IntN(8)]
		if y, _, err := script.Parse(string(b)); err == api.OK {
			if back, err := script.Print(y); back != string(b) || err != api.OK {
				t.Fatalf("%q is read, and printed as %q", b, back)
			}
		}
	}
}
