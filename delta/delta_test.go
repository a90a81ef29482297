package delta_test

import (
	"math/rand/v2"
	"slices"
	"testing"

	"catchment/api"
	"catchment/delta"
	"catchment/fold"
	"catchment/word"
)

func ents(l ...string) []api.Entry {
	var e []api.Entry
	for i := 0; i < len(l); i += 2 {
		e = append(e, api.Entry{Key: l[i], Value: l[i+1]})
	}
	return e
}

func put(k, v string) api.Msg  { return api.Msg{Kind: api.Put, Key: k, Value: v} }
func del(k string) api.Msg     { return api.Msg{Kind: api.Delete, Key: k} }
func clr(k, to string) api.Msg { return api.Msg{Kind: api.Clear, Key: k, To: to} }

// P37.1
func TestDiffAndRuns(t *testing.T) {
	for i, x := range []struct {
		a, b       []api.Entry
		diff, runs []api.Msg
	}{
		{nil, nil, nil, nil},
		{ents("a", "1"), ents("a", "1"), nil, nil},
		{ents("a", "1", "b", "1", "c", "1"), ents("c", "2", "d", "1"), []api.Msg{del("a"), del("b"), put("c", "2"), put("d", "1")}, []api.Msg{clr("a", "b\x00"), put("c", "2"), put("d", "1")}},
		{ents("a", "1"), nil, []api.Msg{del("a")}, []api.Msg{del("a")}},
		{ents("", "1", "a", "1"), nil, []api.Msg{del(""), del("a")}, []api.Msg{clr("", "a\x00")}},
		{nil, ents("", "1", "a", "1"), []api.Msg{put("", "1"), put("a", "1")}, []api.Msg{put("", "1"), put("a", "1")}},
		{ents("a", "1", "c", "1"), ents("b", "1"), []api.Msg{del("a"), put("b", "1"), del("c")}, []api.Msg{del("a"), put("b", "1"), del("c")}},
		{ents("a", "1", "b", "1", "c", "1"), ents("b", "1"), []api.Msg{del("a"), del("c")}, []api.Msg{del("a"), del("c")}},
		{ents("a", "1", "b", "1", "c", "1", "d", "1", "e", "1"), ents("c", "2"), []api.Msg{del("a"), del("b"), put("c", "2"), del("d"), del("e")}, []api.Msg{clr("a", "b\x00"), put("c", "2"), clr("d", "e\x00")}},
		{ents("b", "1", "c", "1", "d", "1"), ents("a", "1", "e", "1"), []api.Msg{put("a", "1"), del("b"), del("c"), del("d"), put("e", "1")}, []api.Msg{put("a", "1"), clr("b", "d\x00"), put("e", "1")}},
	} {
		a, b := slices.Clone(x.a), slices.Clone(x.b)
		if got := delta.Diff(x.a, x.b); !slices.Equal(got, x.diff) {
			t.Errorf("case %d: Diff %+v", i, got)
		}
		if got := delta.Runs(x.a, x.b); !slices.Equal(got, x.runs) {
			t.Errorf("case %d: Runs %+v", i, got)
		}
		if !slices.Equal(a, x.a) || !slices.Equal(b, x.b) {
			t.Errorf("case %d: what was handed in was changed", i)
		}
	}
}

// P37.2
func TestPatchAndThree(t *testing.T) {
	if got := delta.Patch(ents("a", "1"), []api.Msg{put("b", "2"), clr("a", "b"), put("a", "3")}); !slices.Equal(got, ents("a", "3", "b", "2")) {
		t.Error("Patch", got)
	}
	// of each key: in base, in a, in b: the end, and whether it clashes ("-": none)
	for i, x := range []struct {
		base, a, b, end string
		clash           bool
	}{
		{"1", "1", "1", "1", false}, {"1", "1", "2", "2", false}, {"1", "2", "1", "2", false}, {"1", "2", "2", "2", false}, {"1", "2", "3", "2", true}, {"1", "1", "-", "-", false}, {"1", "-", "1", "-", false}, {"1", "-", "-", "-", false},
		{"1", "-", "2", "-", true}, {"1", "2", "-", "2", true}, {"-", "1", "-", "1", false}, {"-", "-", "1", "1", false}, {"-", "1", "1", "1", false}, {"-", "1", "2", "1", true}, {"-", "-", "-", "-", false}, {"", "-", "x", "-", true}, {"-", "", "x", "", true}, {"-", "-", "", "", false}, {"", "", "-", "-", false},
	} {
		row := func(v string) []api.Entry {
			e := ents("a", "same")
			if v != "-" {
				e = append(e, api.Entry{Key: "k", Value: v})
			}
			return append(e, api.Entry{Key: "z", Value: "same"})
		}
		got, clashes := delta.Three(row(x.base), row(x.a), row(x.b))
		if !slices.Equal(got, row(x.end)) || slices.Equal(clashes, []string{"k"}) != x.clash || len(clashes) > 1 {
			t.Errorf("case %d: %q, %q", i, got, clashes)
		}
	}
	got, clashes := delta.Three(ents("b", "1", "d", "1"), ents("a", "2", "b", "2", "c", "2", "d", "2"), ents("a", "3", "d", "3"))
	if !slices.Equal(got, ents("a", "2", "b", "2", "c", "2", "d", "2")) || !slices.Equal(clashes, []string{"a", "b", "d"}) {
		t.Error(got, clashes)
	}
}

// P37.3
func TestSwap(t *testing.T) {
	add := func(k string, n uint64) api.Msg { return api.Msg{Kind: api.Add, Key: k, Delta: n} }
	for i, x := range []struct {
		l, m []api.Msg
		want bool
	}{
		{nil, nil, true}, {[]api.Msg{put("a", "1")}, nil, true}, {[]api.Msg{put("a", "1")}, []api.Msg{put("b", "2")}, true}, {[]api.Msg{put("a", "1")}, []api.Msg{put("a", "2")}, false}, {[]api.Msg{put("a", "1")}, []api.Msg{put("a", "1")}, true},
		{[]api.Msg{add("a", 1)}, []api.Msg{add("a", 2)}, true}, {[]api.Msg{add("a", 1)}, []api.Msg{put("a", "x")}, true}, {[]api.Msg{add("a", 1)}, []api.Msg{put("a", word.Put(5))}, false}, {[]api.Msg{put("a", "1")}, []api.Msg{clr("a", "b")}, false}, {[]api.Msg{put("b", "1")}, []api.Msg{clr("a", "b")}, true},
		{[]api.Msg{del("a")}, []api.Msg{clr("", "")}, true}, {[]api.Msg{add("a", 0)}, []api.Msg{del("a")}, false},
	} {
		if delta.Swap(x.l, x.m) != x.want || delta.Swap(x.m, x.l) != x.want {
			t.Errorf("case %d", i)
		}
	}
	l := append(make([]api.Msg, 0, 4), put("a", "1"))
	delta.Swap(l, []api.Msg{put("b", "1")})
	if l[:2][1] != (api.Msg{}) {
		t.Error("the room behind a list's end was changed")
	}
}

var keys = []string{"", "a", "b", "c", "d", "e", "f"}

func random(r *rand.Rand) []api.Entry {
	var e []api.Entry
	for _, k := range keys {
		if r.IntN(2) == 0 {
			e = append(e, api.Entry{Key: k, Value: []string{"", "1", word.Put(2)}[r.IntN(3)]})
		}
	}
	return e
}

// P37.4, P37.5, P37.6
func TestWhatFollows(t *testing.T) {
	r := rand.New(rand.NewPCG(1, 1))
	for range 2000 {
		base, a, b := random(r), random(r), random(r)
		diff, runs := delta.Diff(a, b), delta.Runs(a, b)
		if !slices.Equal(delta.Patch(a, diff), b) || !slices.Equal(delta.Patch(a, runs), b) || len(runs) > len(diff) {
			t.Fatalf("from %q to %q: %+v, %+v", a, b, diff, runs)
		}
		for i := range diff {
			if slices.Equal(delta.Patch(a, slices.Delete(slices.Clone(diff), i, i+1)), b) {
				t.Fatalf("from %q to %q: %+v has one too many", a, b, diff)
			}
		}
		for _, m := range append(diff, runs...) {
			if m.Seq != 0 {
				t.Fatal("Seq")
			}
		}
		if e, c := delta.Three(base, a, a); !slices.Equal(e, a) || len(c) > 0 {
			t.Fatal("base, a, a")
		}
		if e, c := delta.Three(base, a, base); !slices.Equal(e, a) || len(c) > 0 {
			t.Fatal("base, a, base")
		}
		if e, c := delta.Three(base, base, b); !slices.Equal(e, b) || len(c) > 0 {
			t.Fatal("base, base, b")
		}
		e, c := delta.Three(base, a, b)
		_, d := delta.Three(base, b, a)
		if !slices.Equal(c, d) || !fold.Rises(e) {
			t.Fatal("clashes", c, d)
		}
		for _, m := range delta.Diff(base, a) {
			for _, n := range delta.Diff(base, b) {
				if m.Key != n.Key && !delta.Swap([]api.Msg{m}, []api.Msg{n}) {
					t.Fatalf("%+v and %+v", m, n)
				}
			}
		}
	}
}

// R1: of rows that do not rise each call ends.
func TestAnyRows(t *testing.T) {
	r := rand.New(rand.NewPCG(2, 2))
	for range 500 {
		var rows [3][]api.Entry
		for i := range rows {
			for range r.IntN(5) {
				rows[i] = append(rows[i], api.Entry{Key: keys[r.IntN(7)]})
			}
		}
		delta.Diff(rows[0], rows[1])
		delta.Runs(rows[0], rows[1])
		delta.Three(rows[0], rows[1], rows[2])
	}
}
