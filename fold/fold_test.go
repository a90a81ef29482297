package fold_test

import (
	"math"
	"math/rand/v2"
	"slices"
	"testing"

	"catchment/api"
	"catchment/fold"
	"catchment/key"
	"catchment/msg"
	"catchment/word"
)

func put(k, v string) api.Msg      { return api.Msg{Kind: api.Put, Key: k, Value: v} }
func del(k string) api.Msg         { return api.Msg{Kind: api.Delete, Key: k} }
func add(k string, n int) api.Msg  { return api.Msg{Kind: api.Add, Key: k, Delta: uint64(n)} }
func clr(k, to string) api.Msg     { return api.Msg{Kind: api.Clear, Key: k, To: to} }
func rg(from, to string) api.Range { return api.Range{From: from, To: to} }

func ents(l ...string) []api.Entry {
	var e []api.Entry
	for i := 0; i < len(l); i += 2 {
		e = append(e, api.Entry{Key: l[i], Value: l[i+1]})
	}
	return e
}

var texts = []string{"", "a", "a\x00", "b", "c", "d", "e"}

func randomMsgs(r *rand.Rand, n int) []api.Msg {
	var l []api.Msg
	for range n {
		m := api.Msg{Kind: api.Kind(r.IntN(6)), Seq: r.IntN(5), Key: texts[r.IntN(len(texts))]}
		switch m.Kind {
		case api.Put:
			m.Value = []string{"", "v", word.Put(1)}[r.IntN(3)]
		case api.Add:
			m.Delta = uint64(r.IntN(4))
		case api.Clear:
			m.To = texts[r.IntN(len(texts))]
		}
		l = append(l, m)
	}
	return l
}

func randomEntries(r *rand.Rand, n int) []api.Entry {
	var e []api.Entry
	for range n {
		e = append(e, api.Entry{Key: texts[r.IntN(len(texts))], Value: []string{"", "x", word.Put(9)}[r.IntN(3)]})
	}
	return e
}

// slowValue and slow are Value and Entries, told key by key.
func slowValue(l []api.Msg, s, v string, is bool) (string, bool) {
	for _, m := range l {
		v, is = msg.On(m, s, v, is)
	}
	return v, is
}

func slow(l []api.Msg, e []api.Entry, r api.Range) []api.Entry {
	keys := map[string]bool{}
	for _, x := range e {
		keys[x.Key] = true
	}
	for _, m := range l {
		if msg.IsPoint(m) {
			keys[m.Key] = true
		}
	}
	var made []api.Entry
	for _, s := range texts {
		v, is := "", false
		for _, x := range slices.Backward(e) {
			if x.Key == s {
				v, is = x.Value, true
			}
		}
		if v, is = slowValue(l, s, v, is); is && keys[s] && key.RightRange(r) && key.Holds(r, s) {
			made = append(made, api.Entry{Key: s, Value: v})
		}
	}
	return made
}

// P5.1
func TestValue(t *testing.T) {
	for _, x := range []struct {
		l      []api.Msg
		v      string
		is     bool
		want   string
		wantIs bool
	}{
		{nil, "v", true, "v", true},
		{nil, "plays no part", false, "", false},
		{[]api.Msg{put("b", "x")}, "v", false, "", false},
		{[]api.Msg{put("a", "x"), del("a")}, "v", true, "", false},
		{[]api.Msg{del("a"), put("a", "x")}, "v", true, "x", true},
		{[]api.Msg{{Kind: api.Put, Seq: 9, Key: "a", Value: "x"}, {Kind: api.Put, Seq: 1, Key: "a", Value: "y"}}, "", false, "y", true},
		{[]api.Msg{clr("", ""), add("a", 3), clr("b", ""), add("a", 4)}, "v", true, word.Put(7), true},
		{[]api.Msg{{Kind: 77, Key: "a"}}, "v", true, "v", true},
	} {
		if v, is := fold.Value(x.l, "a", x.v, x.is); v != x.want || is != x.wantIs {
			t.Errorf("Value(%+v, %q, %v) = %q, %v", x.l, x.v, x.is, v, is)
		}
	}
}

func TestKeysRisesFind(t *testing.T) {
	l := []api.Msg{put("c", ""), del("a"), clr("b", "z"), add("c", 1), {Key: "d"}, put("", "x")}
	if got := fold.Keys(l); !slices.Equal(got, []string{"", "a", "c"}) {
		t.Errorf("Keys: %q", got)
	}
	if len(fold.Keys(nil)) != 0 {
		t.Error("Keys of none")
	}
	for _, x := range []struct {
		e    []api.Entry
		want bool
	}{{nil, true}, {ents("", "x"), true}, {ents("a", "", "a\x00", ""), true}, {ents("a", "", "a", ""), false}, {ents("a", "", "c", "", "b", ""), false}} {
		if fold.Rises(x.e) != x.want {
			t.Errorf("Rises(%q)", x.e)
		}
	}
	e := ents("b", "1", "a", "2", "b", "3")
	if v, ok := fold.Find(e, "b"); v != "1" || !ok {
		t.Error("Find of one that comes twice", v, ok)
	}
	if v, ok := fold.Find(e, "c"); v != "" || ok {
		t.Error("Find of none", v, ok)
	}
}

// P5.2
func TestEntries(t *testing.T) {
	if got := fold.Entries([]api.Msg{put("b", "2"), clr("a", "b")}, ents("a", "1"), api.Range{}); !slices.Equal(got, ents("b", "2")) {
		t.Errorf("the example: %q", got)
	}
	for _, r := range []api.Range{rg("b", "b"), rg("c", "b")} {
		if got := fold.Entries([]api.Msg{put("b", "2")}, ents("b", "1"), r); len(got) != 0 {
			t.Errorf("of %q: %q", r, got)
		}
	}
	r := rand.New(rand.NewPCG(5, 6))
	for range 4000 {
		l, e := randomMsgs(r, r.IntN(8)), randomEntries(r, r.IntN(6))
		x := rg(texts[r.IntN(len(texts))], texts[r.IntN(len(texts))])
		if r.IntN(3) == 0 {
			x = api.Range{}
		}
		l2, e2 := slices.Clone(l), slices.Clone(e)
		want := slow(l, e, x)
		if got := fold.Entries(l, e, x); !slices.Equal(got, want) {
			t.Fatalf("Entries(%+v, %q, %q) = %q, want %q", l, e, x, got, want)
		}
		var all []api.Entry
		for k, v := range fold.All(l, e, x) {
			all = append(all, api.Entry{Key: k, Value: v})
		}
		if !slices.Equal(all, want) {
			t.Fatalf("All: %q, want %q", all, want)
		}
		for _, n := range []int{math.MinInt, -1, 0, 1, 2, len(want), len(want) + 1, math.MaxInt} {
			if got := fold.Some(l, e, x, n); !slices.Equal(got, want[:max(0, min(n, len(want)))]) {
				t.Fatalf("Some of %d: %q", n, got)
			}
		}
		if !slices.Equal(l, l2) || !slices.Equal(e, e2) {
			t.Fatal("what was handed in was changed")
		}
	}
}

func TestAllIsNotWhatWasHandedIn(t *testing.T) {
	l, e := []api.Msg{put("b", "2")}, ents("a", "1")
	all := fold.All(l, e, api.Range{})
	l[0].Key, e[0].Key = "x", "y"
	for range 2 {
		var got []string
		for k := range all {
			got = append(got, k)
		}
		if !slices.Equal(got, []string{"a", "b"}) {
			t.Fatal(got)
		}
	}
	for range all {
		break
	}
}

// P5.2, P5.5
func TestChanged(t *testing.T) {
	e := ents("a", "1", "b", "2", "c", "3")
	l := []api.Msg{put("a", "1"), del("b"), put("d", "4"), put("e", "5"), clr("e", ""), put("c", "x"), put("c", "3"), del("z")}
	if got := fold.Changed(l, e); !slices.Equal(got, []string{"b", "d"}) {
		t.Errorf("Changed: %q", got)
	}
	if got := fold.Changed([]api.Msg{clr("", "")}, ents("b", "", "a", "")); !slices.Equal(got, []string{"a", "b"}) {
		t.Errorf("Changed by a Clear: %q", got)
	}
	r := rand.New(rand.NewPCG(7, 8))
	for range 2000 {
		l, e := randomMsgs(r, r.IntN(8)), randomEntries(r, r.IntN(6))
		before, behind := slow(nil, e, api.Range{}), slow(l, e, api.Range{})
		var want []string
		for _, s := range texts {
			v, is := fold.Find(before, s)
			w, has := fold.Find(behind, s)
			if v != w || is != has {
				want = append(want, s)
			}
		}
		if got := fold.Changed(l, e); !slices.Equal(got, want) {
			t.Fatalf("Changed(%+v, %q) = %q, want %q", l, e, got, want)
		}
	}
}

// P5.3, P5.4
func TestPartsOfFolds(t *testing.T) {
	r := rand.New(rand.NewPCG(9, 10))
	for range 2000 {
		l, e := randomMsgs(r, r.IntN(8)), randomEntries(r, r.IntN(6))
		at := r.IntN(len(l) + 1)
		whole := fold.Entries(l, e, api.Range{})
		if got := fold.Entries(l[at:], fold.Entries(l[:at], e, api.Range{}), api.Range{}); !slices.Equal(got, whole) {
			t.Fatalf("%+v in two parts: %q, want %q", l, got, whole)
		}
		x := rg(texts[r.IntN(len(texts))], texts[r.IntN(len(texts))])
		var part []api.Msg
		for _, m := range l {
			if p, ok := msg.Clip(m, x); ok {
				part = append(part, p)
			}
		}
		if a, b := fold.Entries(l, e, x), fold.Entries(part, e, x); !slices.Equal(a, b) {
			t.Fatalf("%+v, the part of %q: %q, want %q", l, x, b, a)
		}
	}
}
