package buffer_test

import (
	"math"
	"math/rand/v2"
	"slices"
	"testing"

	"catchment/api"
	"catchment/buffer"
	"catchment/fold"
	"catchment/msg"
)

func put(seq int, k string) api.Msg { return api.Msg{Kind: api.Put, Seq: seq, Key: k, Value: "v"} }
func clr(seq int, k, to string) api.Msg {
	return api.Msg{Kind: api.Clear, Seq: seq, Key: k, To: to}
}

// P12.1
func TestRight(t *testing.T) {
	for i, x := range []struct {
		l    []api.Msg
		want bool
	}{
		{nil, true},
		{[]api.Msg{put(1, "b"), put(2, "a")}, true},
		{[]api.Msg{put(2, "a"), put(1, "b")}, false},
		{[]api.Msg{put(1, "a"), put(1, "b")}, true},
		{[]api.Msg{put(1, "b"), put(1, "a")}, false},
		{[]api.Msg{put(1, "a"), put(1, "a")}, false},
		{[]api.Msg{put(1, "a"), put(2, "a")}, true},
		{[]api.Msg{put(-4, ""), put(-4, "a")}, true},
		{[]api.Msg{put(1, ""), put(1, "")}, false},
		{[]api.Msg{clr(1, "a", "c"), put(1, "b")}, false},
		{[]api.Msg{clr(1, "a", "c"), put(1, "c")}, true},
		{[]api.Msg{clr(1, "a", "c"), put(2, "b")}, true},
		{[]api.Msg{clr(1, "a", ""), put(1, "z")}, false},
		{[]api.Msg{clr(1, "a", "c"), clr(1, "c", "d")}, true},
		{[]api.Msg{clr(1, "a", "c"), clr(1, "b", "d")}, false},
		{[]api.Msg{clr(1, "a", "z"), clr(1, "b", "c"), put(1, "x")}, false},
		{[]api.Msg{put(1, "a"), clr(1, "a", "b")}, false},
		{[]api.Msg{put(1, "a"), clr(1, "a\x00", "b")}, true},
		{[]api.Msg{clr(1, "a", "a")}, false},
		{[]api.Msg{clr(1, "b", "a")}, false},
		{[]api.Msg{{Seq: 1, Key: "a"}}, false},
		{[]api.Msg{{Kind: 5, Seq: 1, Key: "a"}}, false},
	} {
		if buffer.Right(x.l) != x.want {
			t.Errorf("case %d", i)
		}
	}
}

func TestRightAgainstPlain(t *testing.T) {
	texts := []string{"", "a", "b", "c", "d"}
	r := rand.New(rand.NewPCG(1, 1))
	for range 5000 {
		var l []api.Msg
		for range r.IntN(4) {
			m := put(r.IntN(2), texts[r.IntN(5)])
			if r.IntN(2) == 0 {
				m = clr(r.IntN(2), texts[r.IntN(5)], texts[r.IntN(5)])
			}
			l = append(l, m)
		}
		want := true
		for i, m := range l {
			if m.Kind == api.Clear && m.To != "" && m.To <= m.Key {
				want = false
			}
			for _, x := range l[:i] {
				if x.Seq > m.Seq || x.Seq == m.Seq && x.Key > m.Key {
					want = false
				}
				for _, s := range []string{"", "a", "b", "c", "d", "z"} {
					if x.Seq == m.Seq && msg.Touches(x, s) && msg.Touches(m, s) {
						want = false
					}
				}
			}
		}
		if buffer.Right(l) != want {
			t.Fatalf("Right(%+v) = %v", l, !want)
		}
	}
}

func TestAdd(t *testing.T) {
	l := append(make([]api.Msg, 0, 9), put(2, "b"), put(5, "a"))
	more := []api.Msg{put(6, "z"), put(1, "y"), put(2, "a"), put(2, "c"), put(5, "a")}
	more[4].Value = "second"
	first, behind := slices.Clone(l), slices.Clone(more)
	got := buffer.Add(l, more...)
	want := []api.Msg{put(1, "y"), put(2, "a"), put(2, "b"), put(2, "c"), put(5, "a"), more[4], put(6, "z")}
	if !slices.Equal(got, want) {
		t.Errorf("Add: %+v", got)
	}
	got[0].Key = "spoilt"
	if !slices.Equal(l, first) || !slices.Equal(more, behind) || l[:9][2] != (api.Msg{}) {
		t.Error("what was handed in was changed")
	}
	alone := buffer.Add(l)
	alone[0].Key = "spoilt"
	if l[0].Key != "b" || len(buffer.Add(nil)) != 0 {
		t.Error("Add of none")
	}
	if got := buffer.Add(nil, put(3, "c"), put(1, "d")); !slices.Equal(got, []api.Msg{put(1, "d"), put(3, "c")}) {
		t.Error("Add to none", got)
	}
}

func TestBytesAndNewest(t *testing.T) {
	l := []api.Msg{put(1, "ab"), clr(7, "a", "c"), put(4, "")}
	if n := buffer.Bytes(l); n != 19+18+17 || buffer.Bytes(nil) != 0 {
		t.Error("Bytes", n)
	}
	if buffer.Newest(l) != 7 || buffer.Newest(nil) != 0 || buffer.Newest([]api.Msg{put(-5, "a"), put(-3, "a")}) != -3 || buffer.Newest([]api.Msg{put(-5, "a")}) != -5 {
		t.Error("Newest")
	}
}

// P12.2
func TestTake(t *testing.T) {
	l := []api.Msg{clr(1, "a", "z"), put(2, "d"), put(3, "x")}
	in := []api.Msg{clr(1, "c", "f"), put(2, "d")}
	out := []api.Msg{clr(1, "a", "c"), clr(1, "f", "z"), put(3, "x")}
	r := api.Range{From: "c", To: "f"}
	a, b := buffer.Take(l, r)
	if !slices.Equal(a, in) || !slices.Equal(b, out) || !slices.Equal(buffer.For(l, r), in) {
		t.Errorf("Take: %+v, %+v", a, b)
	}
	a, b = buffer.Take(l[:3], api.Range{From: "c", To: "c"})
	if len(a) != 0 || !slices.Equal(b, l[:3]) {
		t.Errorf("Take of no right range: %+v, %+v", a, b)
	}
	b[0].Key = "spoilt"
	if l[0].Key != "a" {
		t.Error("an answer lies in what was handed in")
	}
	if got := buffer.At(l, "d"); !slices.Equal(got, l[:2]) {
		t.Errorf("At: %+v", got)
	}
	if got := buffer.At(l, "z"); len(got) != 0 {
		t.Errorf("At: %+v", got)
	}
}

// P12.3
func TestSpanAndWithin(t *testing.T) {
	for i, x := range []struct {
		l    []api.Msg
		want api.Range
	}{
		{[]api.Msg{put(1, "d")}, api.Range{From: "d", To: "d\x00"}},
		{[]api.Msg{put(1, "d"), put(2, "b")}, api.Range{From: "b", To: "d\x00"}},
		{[]api.Msg{put(1, "d"), clr(2, "c", "m"), put(3, "e")}, api.Range{From: "c", To: "m"}},
		{[]api.Msg{clr(2, "c", ""), put(3, "a")}, api.Range{From: "a"}},
	} {
		got, ok := buffer.Span(x.l)
		if got != x.want || !ok {
			t.Errorf("case %d: %q", i, got)
		}
		if !buffer.Within(x.l, got) || !buffer.Within(x.l, api.Range{}) {
			t.Errorf("case %d: not Within", i)
		}
		if buffer.Within(x.l, api.Range{From: got.From + "\x00", To: got.To}) {
			t.Errorf("case %d: Within, but for its From", i)
		}
		if buffer.Within(x.l, api.Range{From: got.From, To: "cc"}) {
			t.Errorf("case %d: Within, but for its To", i)
		}
	}
	if r, ok := buffer.Span(nil); r != (api.Range{}) || ok {
		t.Error("Span of none")
	}
	if !buffer.Within(nil, api.Range{From: "b", To: "a"}) || buffer.Within([]api.Msg{put(1, "a")}, api.Range{From: "a", To: "a"}) {
		t.Error("Within")
	}
}

// P12.4, P12.5
func TestPartsDoWhatAllDo(t *testing.T) {
	texts := []string{"", "a", "b", "c", "d", "e"}
	r := rand.New(rand.NewPCG(2, 2))
	for range 2000 {
		var l []api.Msg
		for seq := range r.IntN(6) {
			m := put(seq, texts[r.IntN(6)])
			if r.IntN(3) == 0 {
				m = clr(seq, texts[r.IntN(3)], texts[3+r.IntN(3)])
			}
			l = append(l, m)
		}
		x := api.Range{From: texts[r.IntN(6)], To: texts[r.IntN(6)]}
		in, out := buffer.Take(l, x)
		if !buffer.Right(l) || !buffer.Right(in) || !buffer.Right(out) || !buffer.Right(buffer.Add(in, out...)) {
			t.Fatalf("%+v, %+v of %+v are no buffers", in, out, l)
		}
		if !buffer.Within(in, x) {
			t.Fatalf("%+v do not lie in %q", in, x)
		}
		for _, s := range []string{"", "a", "aa", "b", "c", "d", "e", "f"} {
			want, is := fold.Value(l, s, "old", true)
			for _, both := range [][]api.Msg{append(slices.Clone(in), out...), append(slices.Clone(out), in...), buffer.Add(out, in...)} {
				if v, ok := fold.Value(both, s, "old", true); v != want || ok != is {
					t.Fatalf("%+v and %+v of %+v at %q", in, out, l, s)
				}
			}
		}
	}
}

func TestNumbersOfAnySize(t *testing.T) {
	l := []api.Msg{put(math.MinInt, "a"), put(math.MaxInt, "b")}
	if !buffer.Right(l) || buffer.Newest(l) != math.MaxInt || !slices.Equal(buffer.Add(l[1:], l[0]), l) {
		t.Error("numbers")
	}
}
