package pivot_test

import (
	"math"
	"math/rand/v2"
	"slices"
	"testing"

	"catchment/api"
	"catchment/key"
	"catchment/pivot"
)

func rg(from, to string) api.Range { return api.Range{From: from, To: to} }

// P13.1
func TestRight(t *testing.T) {
	for i, x := range []struct {
		p    []string
		r    api.Range
		want bool
	}{
		{nil, rg("", ""), true}, {nil, rg("b", "b"), false}, {nil, rg("b", "a"), false}, {nil, rg("a", "b"), true},
		{[]string{"d", "m"}, rg("", ""), true}, {[]string{"d", "d"}, rg("", ""), false}, {[]string{"m", "d"}, rg("", ""), false},
		{[]string{"d", "m"}, rg("d", ""), false}, {[]string{"d", "m"}, rg("c", "m"), false}, {[]string{"d", "m"}, rg("c", "n"), true},
		{[]string{""}, rg("", ""), false}, {[]string{"d"}, rg("e", "c"), false}, {[]string{"d"}, rg("a", "c"), false}, {[]string{"d"}, rg("e", ""), false},
	} {
		if pivot.Right(x.p, x.r) != x.want {
			t.Errorf("case %d", i)
		}
		if _, ok := pivot.Span(x.p, x.r, 0); ok != x.want {
			t.Errorf("case %d: Span", i)
		}
		n := 0
		for range pivot.All(x.p, x.r) {
			n++
		}
		if first, many := pivot.Meets(x.p, x.r, rg("", "")); !x.want && (n != 0 || first != 0 || many != 0) || x.want && (n != len(x.p)+1 || many != n || first != 0) {
			t.Errorf("case %d: %d parts, meets %d from %d on", i, n, many, first)
		}
	}
}

func TestPartAndSpan(t *testing.T) {
	p := []string{"d", "m"}
	for s, want := range map[string]int{"": 0, "c": 0, "d": 1, "lz": 1, "m": 2, "z": 2} {
		if pivot.Part(p, s) != want || pivot.Part(nil, s) != 0 {
			t.Errorf("Part(%q) = %d", s, pivot.Part(p, s))
		}
	}
	for i, want := range []api.Range{rg("b", "d"), rg("d", "m"), rg("m", "x")} {
		if got, ok := pivot.Span(p, rg("b", "x"), i); got != want || !ok {
			t.Errorf("Span(%d) = %q, %v", i, got, ok)
		}
	}
	for _, i := range []int{-1, 3, math.MinInt, math.MaxInt} {
		if got, ok := pivot.Span(p, rg("b", "x"), i); got != (api.Range{}) || ok {
			t.Errorf("Span(%d) = %q, %v", i, got, ok)
		}
	}
}

func TestMeets(t *testing.T) {
	p, r := []string{"d", "m"}, rg("b", "x")
	for _, x := range []struct {
		x           api.Range
		first, many int
	}{
		{rg("b", "e"), 0, 2}, {rg("d", "e"), 1, 1}, {rg("d", "m"), 1, 1}, {rg("c", "d"), 0, 1}, {rg("", ""), 0, 3}, {rg("l", ""), 1, 2},
		{rg("", "b"), 0, 0}, {rg("x", ""), 0, 0}, {rg("e", "e"), 0, 0}, {rg("f", "e"), 0, 0}, {rg("w", "z"), 2, 1},
	} {
		if first, many := pivot.Meets(p, r, x.x); first != x.first || many != x.many {
			t.Errorf("Meets(%q) = %d, %d", x.x, first, many)
		}
	}
}

// P13.2
func TestSteps(t *testing.T) {
	p := []string{"d", "m"}
	put := func(i int, s string) ([]string, bool) { return pivot.Put(p, i, s) }
	move := func(i int, s string) ([]string, bool) { return pivot.Move(p, i, s) }
	drop := func(i int, s string) ([]string, bool) { return pivot.Drop(p, i) }
	for _, x := range []struct {
		name string
		f    func(int, string) ([]string, bool)
		i    int
		s    string
		want []string
	}{
		{"Put", put, 0, "a", []string{"a", "d", "m"}}, {"Put", put, 1, "e", []string{"d", "e", "m"}}, {"Put", put, 2, "z", []string{"d", "m", "z"}},
		{"Put", put, 0, "d", nil}, {"Put", put, 1, "d", nil}, {"Put", put, 1, "m", nil}, {"Put", put, 2, "e", nil}, {"Put", put, 2, "m", nil},
		{"Put", put, 3, "z", nil}, {"Put", put, -1, "a", nil}, {"Put", put, math.MaxInt, "z", nil}, {"Put", put, math.MinInt, "a", nil},
		{"Move", move, 0, "a", []string{"a", "m"}}, {"Move", move, 0, "d", p}, {"Move", move, 1, "e", []string{"d", "e"}}, {"Move", move, 1, "z", []string{"d", "z"}},
		{"Move", move, 0, "m", nil}, {"Move", move, 0, "z", nil}, {"Move", move, 1, "d", nil}, {"Move", move, 2, "z", nil}, {"Move", move, -1, "a", nil},
		{"Move", move, math.MaxInt, "z", nil}, {"Move", move, math.MinInt, "a", nil},
		{"Drop", drop, 0, "", []string{"m"}}, {"Drop", drop, 1, "", []string{"d"}}, {"Drop", drop, 2, "", nil}, {"Drop", drop, -1, "", nil},
		{"Drop", drop, math.MaxInt, "", nil}, {"Drop", drop, math.MinInt, "", nil},
	} {
		got, ok := x.f(x.i, x.s)
		if !slices.Equal(got, x.want) || ok != (x.want != nil) {
			t.Errorf("%s of %d, %q: %q, %v", x.name, x.i, x.s, got, ok)
		}
	}
	if got, ok := pivot.Drop([]string{"d"}, 0); len(got) != 0 || !ok {
		t.Error("Drop of the last one", got, ok)
	}
	if got, ok := pivot.Put(nil, 0, "x"); !slices.Equal(got, []string{"x"}) || !ok {
		t.Error("Put into none", got, ok)
	}
	if !slices.Equal(p, []string{"d", "m"}) {
		t.Error("what was handed in was changed")
	}
}

func TestHalves(t *testing.T) {
	for _, x := range []struct {
		p, a, b []string
		at      string
	}{
		{nil, nil, nil, ""}, {[]string{"d"}, nil, nil, "d"}, {[]string{"d", "m"}, []string{"d"}, nil, "m"},
		{[]string{"a", "b", "c"}, []string{"a"}, []string{"c"}, "b"}, {[]string{"a", "b", "c", "d"}, []string{"a", "b"}, []string{"d"}, "c"},
	} {
		if a, b, at := pivot.Halves(x.p); !slices.Equal(a, x.a) || !slices.Equal(b, x.b) || at != x.at {
			t.Errorf("Halves(%q) = %q, %q, %q", x.p, a, b, at)
		}
	}
}

func TestNewMemory(t *testing.T) {
	p := append(make([]string, 0, 9), "d", "m", "t")
	all := pivot.All(p, rg("", ""))
	a, b, _ := pivot.Halves(p)
	put, _ := pivot.Put(p, 1, "e")
	last, _ := pivot.Put(p, 3, "z")
	move, _ := pivot.Move(p, 2, "u")
	drop, _ := pivot.Drop(p, 2)
	for _, l := range [][]string{a, b, put, last, move, drop} {
		for i := range l {
			l[i] = "spoilt"
		}
		_ = append(l, "spoilt")
	}
	if !slices.Equal(p, []string{"d", "m", "t"}) || p[:9][3] != "" {
		t.Errorf("what was handed in was changed: %q", p[:9])
	}
	p[0] = "c"
	for i, r := range all {
		if i == 0 && r.To != "d" {
			t.Error("what was handed in was kept")
		}
		if i == 1 {
			break
		}
	}
}

// P13.3, P13.4
func TestParts(t *testing.T) {
	texts := []string{"", "a", "b", "bb", "c", "d", "e", "f"}
	r := rand.New(rand.NewPCG(1, 1))
	for range 2000 {
		var p []string
		for _, s := range texts[1:] {
			if r.IntN(2) == 0 {
				p = append(p, s)
			}
		}
		x := rg(texts[r.IntN(3)], texts[r.IntN(8)])
		if !pivot.Right(p, x) {
			continue
		}
		for _, s := range append(texts, "aa", "zz") {
			n, at := 0, -1
			for i, span := range pivot.All(p, x) {
				if key.Holds(span, s) {
					n, at = n+1, i
				}
			}
			if in := key.Holds(x, s); in && (n != 1 || at != pivot.Part(p, s)) || !in && n != 0 {
				t.Fatalf("%q in the parts of %q by %q: %d, the last one %d", s, x, p, n, at)
			}
		}
		s := texts[r.IntN(8)]
		i := pivot.Part(p, s)
		whole, _ := pivot.Span(p, x, i)
		more, ok := pivot.Put(p, i, s)
		if !ok || !pivot.Right(more, x) {
			continue
		}
		left, _ := pivot.Span(more, x, i)
		right, _ := pivot.Span(more, x, i+1)
		if a, b, ok := key.Split(whole, s); !ok || a != left || b != right {
			t.Fatalf("%q and %q are not parts of %q", left, right, whole)
		}
		if back, ok := pivot.Drop(more, i); !ok || !slices.Equal(back, p) {
			t.Fatal("Drop of what was put")
		}
	}
}
