package msg_test

import (
	"math"
	"math/rand/v2"
	"slices"
	"strings"
	"testing"

	"catchment/api"
	"catchment/msg"
	"catchment/word"
)

var (
	sizes = api.Config{Key: 3, Value: 4}
	put   = api.Msg{Kind: api.Put, Key: "a", Value: "v"}
	del   = api.Msg{Kind: api.Delete, Key: "a"}
	add   = api.Msg{Kind: api.Add, Key: "a", Delta: 7}
	clr   = api.Msg{Kind: api.Clear, Key: "a", To: "m"}
	none  = api.Msg{Key: "a"}
	odd   = api.Msg{Kind: 99, Key: "a", To: "z", Value: "v", Delta: 1}
)

func with(m api.Msg, change func(*api.Msg)) api.Msg {
	change(&m)
	return m
}

// P4.1
func TestCheckForm(t *testing.T) {
	for i, m := range []api.Msg{put, del, add, clr} {
		for _, seq := range []int{0, -5, math.MaxInt} {
			if err := msg.Check(with(m, func(m *api.Msg) { m.Seq = seq }), sizes); err != api.OK {
				t.Errorf("message %d, Seq %d: %d", i, seq, err)
			}
		}
		for field, change := range []func(*api.Msg){
			func(m *api.Msg) { m.To = "z" }, func(m *api.Msg) { m.Value = "x" }, func(m *api.Msg) { m.Delta = 1 },
		} {
			belongs := m.Kind == api.Clear && field == 0 || m.Kind == api.Put && field == 1 || m.Kind == api.Add && field == 2
			want := api.ErrForm
			if belongs {
				want = api.OK
			}
			if err := msg.Check(with(m, change), sizes); err != want {
				t.Errorf("message %d, field %d: %d, want %d", i, field, err, want)
			}
		}
	}
	for _, m := range []api.Msg{{}, none, odd, {Kind: 5, Key: "a"}} {
		if err := msg.Check(m, sizes); err != api.ErrForm {
			t.Errorf("of no kind: %d", err)
		}
	}
	// What is named first counts: the form ahead of the size.
	if err := msg.Check(api.Msg{Kind: api.Delete, Key: "long", Value: "x"}, sizes); err != api.ErrForm {
		t.Error(err)
	}
}

func TestCheckSize(t *testing.T) {
	for _, x := range []struct {
		m    api.Msg
		want api.Errno
	}{
		{api.Msg{Kind: api.Put, Key: "abc", Value: "1234"}, api.OK},
		{api.Msg{Kind: api.Put, Key: "abc", Value: "12345"}, api.ErrSize},
		{api.Msg{Kind: api.Put, Key: "abcd"}, api.ErrSize},
		{api.Msg{Kind: api.Put, Key: ""}, api.ErrSize},
		{api.Msg{Kind: api.Delete, Key: ""}, api.ErrSize},
		{api.Msg{Kind: api.Add, Key: "abcd"}, api.ErrSize},
		{api.Msg{Kind: api.Clear}, api.OK},
		{api.Msg{Kind: api.Clear, Key: "abc"}, api.OK},
		{api.Msg{Kind: api.Clear, Key: "abcd"}, api.ErrSize},
		{api.Msg{Kind: api.Clear, Key: "a", To: "abc"}, api.OK},
		{api.Msg{Kind: api.Clear, Key: "abc", To: "abcd"}, api.ErrSize},
		{api.Msg{Kind: api.Clear, Key: "z", To: "abcd"}, api.ErrSize},
		{api.Msg{Kind: api.Clear, Key: "a", To: "a"}, api.ErrRange},
		{api.Msg{Kind: api.Clear, Key: "b", To: "a"}, api.ErrRange},
		{api.Msg{Kind: api.Clear, Key: "a", To: "b"}, api.OK},
	} {
		if err := msg.Check(x.m, sizes); err != x.want {
			t.Errorf("%+v: %d, want %d", x.m, err, x.want)
		}
	}
}

// P4.2
func TestSizeAndSpan(t *testing.T) {
	if n := msg.Size(api.Msg{Kind: api.Put, Key: "abc", Value: "12"}); n != 21 {
		t.Error(n)
	}
	if n := msg.Size(api.Msg{Kind: api.Clear, Key: "abc", To: "d", Value: "x"}); n != 21 {
		t.Error(n)
	}
	if n := msg.Size(api.Msg{}); n != 16 {
		t.Error(n)
	}
	for _, m := range []api.Msg{put, del, add} {
		if !msg.IsPoint(m) || msg.Span(m) != (api.Range{From: "a", To: "a\x00"}) || !msg.Touches(m, "a") || msg.Touches(m, "a\x00") || msg.Touches(m, "") {
			t.Errorf("%+v", m)
		}
	}
	if msg.IsPoint(clr) || msg.Span(clr) != (api.Range{From: "a", To: "m"}) {
		t.Error("Clear")
	}
	for s, want := range map[string]bool{"": false, "a": true, "lzz": true, "m": false} {
		if msg.Touches(clr, s) != want {
			t.Errorf("Touches(%q)", s)
		}
	}
	if !msg.Touches(api.Msg{Kind: api.Clear}, "") || msg.Touches(api.Msg{Kind: api.Clear, Key: "b", To: "a"}, "b") {
		t.Error("Clear without an end, and the wrong way round")
	}
	for _, m := range []api.Msg{none, odd} {
		if msg.IsPoint(m) || msg.Span(m) != (api.Range{}) || msg.Touches(m, "a") {
			t.Errorf("%+v", m)
		}
	}
}

// P4.3
func TestApply(t *testing.T) {
	n := word.Put
	for _, x := range []struct {
		m      api.Msg
		v      string
		is     bool
		want   string
		wantIs bool
	}{
		{put, "old", true, "v", true}, {put, "", false, "v", true},
		{del, "old", true, "", false}, {del, "old", false, "", false}, {clr, "old", true, "", false},
		{add, "", false, n(7), true}, {add, n(3), false, n(7), true}, {add, n(3), true, n(10), true}, {add, "abc", true, "abc", true}, {add, "", true, "", true},
		{none, "old", true, "old", true}, {none, "old", false, "", false}, {odd, "old", true, "old", true},
	} {
		if v, is := msg.Apply(x.m, x.v, x.is); v != x.want || is != x.wantIs {
			t.Errorf("Apply(%+v, %q, %v) = %q, %v", x.m, x.v, x.is, v, is)
		}
		if v, is := msg.On(x.m, "a", x.v, x.is); v != x.want || is != x.wantIs {
			t.Errorf("On(%+v, a, %q, %v) = %q, %v", x.m, x.v, x.is, v, is)
		}
		if v, is := msg.On(x.m, "z", x.v, true); v != x.v || !is {
			t.Errorf("On(%+v, z, %q) = %q, %v", x.m, x.v, v, is)
		}
		if v, is := msg.On(x.m, "z", x.v, false); v != "" || is {
			t.Errorf("On(%+v, z) of none = %q, %v", x.m, v, is)
		}
	}
}

// P4.4
func TestClipAndRest(t *testing.T) {
	c := func(k, to string) api.Msg { return api.Msg{Kind: api.Clear, Seq: 3, Key: k, To: to} }
	p := api.Msg{Kind: api.Put, Seq: 4, Key: "d", Value: "x"}
	rg := func(a, b string) api.Range { return api.Range{From: a, To: b} }
	for _, x := range []struct {
		m    api.Msg
		r    api.Range
		in   api.Msg
		rest []api.Msg
	}{
		{c("a", "z"), rg("c", "f"), c("c", "f"), []api.Msg{c("a", "c"), c("f", "z")}},
		{c("a", "z"), rg("", ""), c("a", "z"), nil},
		{c("a", "z"), rg("a", "z"), c("a", "z"), nil},
		{c("a", "z"), rg("", "f"), c("a", "f"), []api.Msg{c("f", "z")}},
		{c("a", ""), rg("c", "f"), c("c", "f"), []api.Msg{c("a", "c"), c("f", "")}},
		{c("a", ""), rg("c", ""), c("c", ""), []api.Msg{c("a", "c")}},
		{c("", ""), rg("c", ""), c("c", ""), []api.Msg{c("", "c")}},
		{c("a", "c"), rg("c", "f"), api.Msg{}, []api.Msg{c("a", "c")}},
		{c("a", "c"), rg("b", "b"), api.Msg{}, []api.Msg{c("a", "c")}},
		{c("c", "a"), rg("", ""), api.Msg{}, []api.Msg{c("c", "a")}},
		{p, rg("d", "e"), p, nil},
		{p, rg("", ""), p, nil},
		{p, rg("e", ""), api.Msg{}, []api.Msg{p}},
		{p, rg("a", "d"), api.Msg{}, []api.Msg{p}},
		{p, rg("d", "d"), api.Msg{}, []api.Msg{p}},
		{none, rg("", ""), api.Msg{}, nil},
		{odd, rg("", ""), api.Msg{}, nil},
	} {
		in, ok := msg.Clip(x.m, x.r)
		if in != x.in || ok != (x.in != api.Msg{}) {
			t.Errorf("Clip(%+v, %q) = %+v, %v", x.m, x.r, in, ok)
		}
		if rest := msg.Rest(x.m, x.r); !slices.Equal(rest, x.rest) {
			t.Errorf("Rest(%+v, %q) = %+v", x.m, x.r, rest)
		}
	}
}

var texts = []string{"", "a", "a\x00", "ab", "b", "c", "d"}

func random(r *rand.Rand) api.Msg {
	m := api.Msg{Kind: api.Kind(r.IntN(6)), Seq: r.IntN(9), Key: texts[r.IntN(len(texts))]}
	switch m.Kind {
	case api.Put:
		m.Value = []string{"", "v", word.Put(5)}[r.IntN(3)]
	case api.Add:
		m.Delta = r.Uint64()
	case api.Clear:
		m.To = texts[r.IntN(len(texts))]
	}
	return m
}

// P4.6
func TestPartsDoWhatTheWholeDoes(t *testing.T) {
	r := rand.New(rand.NewPCG(1, 2))
	for range 3000 {
		m := random(r)
		x := api.Range{From: texts[r.IntN(len(texts))], To: texts[r.IntN(len(texts))]}
		parts := msg.Rest(m, x)
		if in, ok := msg.Clip(m, x); ok {
			parts = append(parts, in)
		}
		for _, s := range texts {
			want, wantIs := msg.On(m, s, "old", true)
			v, is, n := "old", true, 0
			for _, p := range parts {
				v, is = msg.On(p, s, v, is)
				if msg.Touches(p, s) {
					n++
				}
			}
			if v != want || is != wantIs || n > 1 {
				t.Fatalf("%+v by %q at %q: %q, %v, touched by %d", m, x, s, v, is, n)
			}
		}
	}
}

// P4.5, P4.7
func TestJoin(t *testing.T) {
	n := word.Put
	for _, x := range []struct{ a, b, want api.Msg }{
		{put, with(del, func(m *api.Msg) { m.Seq = 9 }), with(del, func(m *api.Msg) { m.Seq = 9 })},
		{add, put, put},
		{with(put, func(m *api.Msg) { m.Seq = 5 }), with(add, func(m *api.Msg) { m.Seq = 6 }), api.Msg{Kind: api.Put, Seq: 6, Key: "a", Value: "v"}},
		{api.Msg{Kind: api.Put, Key: "a", Value: n(3)}, add, api.Msg{Kind: api.Put, Key: "a", Value: n(10)}},
		{del, add, api.Msg{Kind: api.Put, Key: "a", Value: n(7)}},
		{add, api.Msg{Kind: api.Add, Seq: 8, Key: "a", Delta: math.MaxUint64}, api.Msg{Kind: api.Add, Seq: 8, Key: "a", Delta: 6}},
	} {
		if got, ok := msg.Join(x.a, x.b); got != x.want || !ok {
			t.Errorf("Join(%+v, %+v) = %+v, %v", x.a, x.b, got, ok)
		}
	}
	for _, x := range [][2]api.Msg{{put, clr}, {clr, put}, {put, none}, {odd, put}, {put, with(put, func(m *api.Msg) { m.Key = "b" })}, {clr, clr}} {
		if got, ok := msg.Join(x[0], x[1]); got != (api.Msg{}) || ok {
			t.Errorf("Join(%+v, %+v) = %+v, %v", x[0], x[1], got, ok)
		}
	}
	r := rand.New(rand.NewPCG(3, 4))
	for range 3000 {
		a, b := random(r), random(r)
		both, ok := msg.Join(a, b)
		if ok != (msg.IsPoint(a) && msg.IsPoint(b) && a.Key == b.Key) {
			t.Fatalf("Join(%+v, %+v): %v", a, b, ok)
		}
		for _, v := range []string{"", "v", n(0), n(math.MaxUint64), strings.Repeat("x", 9)} {
			for _, is := range []bool{true, false} {
				x, y := msg.Apply(a, v, is)
				x, y = msg.Apply(b, x, y)
				if gx, gy := msg.Apply(both, v, is); ok && (gx != x || gy != y || both.Seq != b.Seq) {
					t.Fatalf("Join(%+v, %+v) = %+v", a, b, both)
				}
			}
		}
	}
}
