package compact_test

import (
	"math/rand/v2"
	"slices"
	"strings"
	"testing"

	"catchment/api"
	"catchment/compact"
	"catchment/fold"
	"catchment/msg"
	"catchment/word"
)

func put(seq int, k, v string) api.Msg {
	return api.Msg{Kind: api.Put, Seq: seq, Key: k, Value: v}
}
func del(seq int, k string) api.Msg { return api.Msg{Kind: api.Delete, Seq: seq, Key: k} }
func add(seq int, k string, n uint64) api.Msg {
	return api.Msg{Kind: api.Add, Seq: seq, Key: k, Delta: n}
}
func clr(seq int, k, to string) api.Msg {
	return api.Msg{Kind: api.Clear, Seq: seq, Key: k, To: to}
}

var texts = []string{"", "a", "b", "c", "d", "e"}

func random(r *rand.Rand, n int) []api.Msg {
	var l []api.Msg
	for i := range n {
		m := api.Msg{Kind: api.Kind(r.IntN(6)), Seq: i, Key: texts[r.IntN(len(texts))]}
		switch m.Kind {
		case api.Put:
			m.Value = []string{"", "v", word.Put(1)}[r.IntN(3)]
		case api.Add:
			m.Delta = uint64(r.IntN(3))
		case api.Clear:
			m.To = texts[r.IntN(len(texts))]
		}
		l = append(l, m)
	}
	return l
}

// same: do two lists make the same of many values of many keys?
func same(a, b []api.Msg) bool {
	for _, s := range []string{"", "\x00", "a", "a\x00", "aa", "b", "b\x00", "c", "cc", "d", "d\x00", "e", "e\x00", "f", "zz"} {
		for i, v := range []string{"", "v", "w", word.Put(0), word.Put(7), strings.Repeat("\xff", 8), "123456789"} {
			av, ais := fold.Value(a, s, v, i > 0)
			bv, bis := fold.Value(b, s, v, i > 0)
			if av != bv || ais != bis {
				return false
			}
		}
		av, ais := fold.Value(a, s, "", true)
		bv, bis := fold.Value(b, s, "", true)
		if av != bv || ais != bis {
			return false
		}
	}
	return true
}

// P6.1
func TestList(t *testing.T) {
	for i, x := range []struct{ l, want []api.Msg }{
		{nil, nil},
		{[]api.Msg{put(1, "a", "x"), add(2, "a", 1), clr(3, "a", "c"), add(4, "b", 5)}, []api.Msg{clr(3, "a", "c"), put(4, "b", word.Put(5))}},
		{[]api.Msg{put(1, "a", "x"), put(2, "b", "y"), put(3, "a", "z")}, []api.Msg{put(2, "b", "y"), put(3, "a", "z")}},
		{[]api.Msg{add(1, "a", 2), add(2, "b", 1), add(3, "a", 3)}, []api.Msg{add(2, "b", 1), add(3, "a", 5)}},
		{[]api.Msg{put(1, "a", word.Put(2)), add(2, "a", 3)}, []api.Msg{put(2, "a", word.Put(5))}},
		{[]api.Msg{del(1, "a"), add(2, "a", 3)}, []api.Msg{put(2, "a", word.Put(3))}},
		{[]api.Msg{add(1, "a", 3), del(2, "a")}, []api.Msg{del(2, "a")}},
		{[]api.Msg{clr(1, "a", "c"), put(2, "b", "x"), del(3, "b")}, []api.Msg{clr(1, "a", "c")}},
		{[]api.Msg{clr(1, "a", "c"), del(2, "a")}, []api.Msg{clr(1, "a", "c")}},
		{[]api.Msg{clr(1, "a", "c"), del(2, "c")}, []api.Msg{clr(1, "a", "c"), del(2, "c")}},
		{[]api.Msg{clr(1, "a", "c"), put(2, "b", "x"), add(3, "b", 1)}, []api.Msg{clr(1, "a", "c"), put(3, "b", "x")}},
		{[]api.Msg{clr(1, "a", "c"), clr(2, "b", "d")}, []api.Msg{clr(1, "a", "c"), clr(2, "b", "d")}},
		{[]api.Msg{clr(1, "a", "c"), clr(2, "a", "d")}, []api.Msg{clr(2, "a", "d")}},
		{[]api.Msg{clr(1, "a", "c"), clr(2, "a", "c")}, []api.Msg{clr(2, "a", "c")}},
		{[]api.Msg{clr(1, "a", "d"), clr(2, "b", "c")}, []api.Msg{clr(1, "a", "d"), clr(2, "b", "c")}},
		{[]api.Msg{put(1, "a", ""), put(2, "c", ""), clr(3, "a", "c")}, []api.Msg{put(2, "c", ""), clr(3, "a", "c")}},
		{[]api.Msg{put(1, "a", ""), clr(2, "b", "b"), clr(3, "c", "a"), {Key: "a"}, {Kind: 9, Key: "a"}}, []api.Msg{put(1, "a", "")}},
		{[]api.Msg{put(1, "z", ""), clr(2, "b", "")}, []api.Msg{clr(2, "b", "")}},
	} {
		l := slices.Clone(x.l)
		if got := compact.List(x.l); !slices.Equal(got, x.want) {
			t.Errorf("case %d: %+v, want %+v", i, got, x.want)
		}
		if !slices.Equal(l, x.l) {
			t.Error("what was handed in was changed")
		}
		if compact.Whole(x.l) != slices.Equal(x.l, x.want) {
			t.Errorf("case %d: Whole", i)
		}
	}
	l := []api.Msg{put(1, "a", "x")}
	compact.List(l)[0].Key = "changed"
	if l[0].Key != "a" {
		t.Error("the answer lies in what was handed in")
	}
	if n := compact.Bytes([]api.Msg{put(1, "ab", "xyz"), clr(2, "a", "c")}); n != 21+18 || compact.Bytes(nil) != 0 {
		t.Error("Bytes", n)
	}
}

// P6.4, P6.5
func TestListKeepsWhatIsMeant(t *testing.T) {
	r := rand.New(rand.NewPCG(1, 1))
	for range 3000 {
		l := random(r, r.IntN(10))
		c := compact.List(l)
		if !same(l, c) || !compact.Alike(l, c) || len(c) > len(l) {
			t.Fatalf("%+v compacted to %+v", l, c)
		}
		if !slices.Equal(compact.List(c), c) || !compact.Whole(c) {
			t.Fatalf("%+v is not compact", c)
		}
		points := map[string]int{}
		for _, m := range c {
			if msg.IsPoint(m) {
				if points[m.Key]++; points[m.Key] > 1 {
					t.Fatalf("%+v has more points than one for %q", c, m.Key)
				}
			}
		}
		if compact.Whole(l) != slices.Equal(l, c) {
			t.Fatal("Whole")
		}
	}
}

// P6.2
func TestAlike(t *testing.T) {
	for i, x := range []struct {
		a, b []api.Msg
		want bool
	}{
		{nil, nil, true},
		{nil, []api.Msg{{Kind: 9, Key: "a"}, clr(1, "b", "a")}, true},
		{nil, []api.Msg{add(1, "a", 0)}, false},
		{[]api.Msg{add(1, "a", 1), add(2, "a", 2)}, []api.Msg{add(9, "a", 3)}, true},
		{[]api.Msg{add(1, "a", 1)}, []api.Msg{add(1, "a", 2)}, false},
		{[]api.Msg{del(1, "a")}, []api.Msg{clr(1, "a", "a\x00")}, true},
		{[]api.Msg{del(1, "a")}, []api.Msg{clr(1, "a", "a\x00\x00")}, false},
		{[]api.Msg{clr(1, "a", "b"), clr(2, "b", "c")}, []api.Msg{clr(1, "a", "c")}, true},
		{[]api.Msg{clr(1, "a", "c")}, []api.Msg{clr(1, "a", "")}, false},
		{[]api.Msg{clr(1, "", "a")}, nil, false},
		{[]api.Msg{put(1, "a", "x")}, []api.Msg{put(1, "a", "y")}, false},
		{[]api.Msg{put(1, "a", word.Put(3))}, []api.Msg{add(1, "a", 3)}, false},
		{[]api.Msg{put(1, "a", "x"), put(2, "b", "y")}, []api.Msg{put(1, "b", "y"), put(2, "a", "x")}, true},
	} {
		if compact.Alike(x.a, x.b) != x.want || compact.Alike(x.b, x.a) != x.want {
			t.Errorf("case %d", i)
		}
	}
	r := rand.New(rand.NewPCG(2, 2))
	for range 3000 {
		a, b := random(r, r.IntN(4)), random(r, r.IntN(4))
		if compact.Alike(a, b) != same(a, b) {
			t.Fatalf("Alike(%+v, %+v)", a, b)
		}
	}
}

// P6.3, P6.6
func TestInverse(t *testing.T) {
	e := []api.Entry{{Key: "a", Value: "1"}, {Key: "b", Value: "2"}, {Key: "c", Value: "3"}}
	l := []api.Msg{put(4, "d", "x"), clr(5, "a", "c"), put(6, "b", "2"), put(7, "c", "y")}
	want := []api.Msg{put(0, "a", "1"), put(0, "c", "3"), del(0, "d")}
	if got := compact.Inverse(l, e); !slices.Equal(got, want) {
		t.Errorf("Inverse: %+v", got)
	}
	// Of entries of the same key the first one counts.
	twice := []api.Entry{{Key: "b", Value: "first"}, {Key: "a", Value: "1"}, {Key: "b", Value: "second"}}
	if got := compact.Inverse([]api.Msg{del(1, "b")}, twice); !slices.Equal(got, []api.Msg{put(0, "b", "first")}) {
		t.Errorf("Inverse: %+v", got)
	}
	r := rand.New(rand.NewPCG(3, 3))
	for range 2000 {
		var e []api.Entry
		for _, s := range texts {
			if r.IntN(2) == 0 {
				e = append(e, api.Entry{Key: s, Value: []string{"", "v", word.Put(4)}[r.IntN(3)]})
			}
		}
		l := random(r, r.IntN(8))
		both := append(slices.Clone(l), compact.Inverse(l, e)...)
		if got := fold.Entries(both, e, api.Range{}); !slices.Equal(got, e) {
			t.Fatalf("%+v and its Inverse make %q of %q", l, got, e)
		}
	}
}
