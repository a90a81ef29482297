package key_test

import (
	"slices"
	"testing"

	"catchment/api"
	"catchment/key"
)

// texts are those that all pairs and ranges below are made of.
var texts = []string{"", "\x00", "a", "a\x00", "a\x00\x00", "ab", "abc", "b", "b\xff", "c", "\xff"}

func ranges() []api.Range {
	var l []api.Range
	for _, a := range texts {
		for _, b := range texts {
			l = append(l, api.Range{From: a, To: b})
		}
	}
	return l
}

// has is what a range means, told by itself.
func has(r api.Range, s string) bool { return s >= r.From && (r.To == "" || s < r.To) }

// P2.1
func TestKeys(t *testing.T) {
	for _, x := range []struct {
		s    string
		most int
		want bool
	}{{"", 3, false}, {"a", 1, true}, {"ab", 1, false}, {"abc", 3, true}, {"abcd", 3, false}, {"a", 0, false}, {"a", -1, false}, {"", -1, false}} {
		if key.Right(x.s, x.most) != x.want {
			t.Errorf("Right(%q, %d)", x.s, x.most)
		}
	}
	for _, s := range texts {
		a := key.After(s)
		if a != s+"\x00" {
			t.Errorf("After(%q) = %q", s, a)
		}
		for _, x := range texts {
			if x > s && x < a {
				t.Errorf("%q is between %q and %q", x, s, a)
			}
		}
	}
}

func TestEnds(t *testing.T) {
	// In the order of ends the empty one comes last.
	ends := append(slices.Clone(texts[1:]), "")
	slices.Sort(ends[:len(ends)-1])
	for i, a := range ends {
		for j, b := range ends {
			if key.Before(a, b) != (i < j) {
				t.Errorf("Before(%q, %q)", a, b)
			}
			if key.First(a, b) != ends[min(i, j)] {
				t.Errorf("First(%q, %q)", a, b)
			}
			if key.Last(a, b) != ends[max(i, j)] {
				t.Errorf("Last(%q, %q)", a, b)
			}
		}
	}
}

// P2.2, P2.5
func TestRanges(t *testing.T) {
	for _, r := range ranges() {
		right := r.To == "" || r.To > r.From
		if key.RightRange(r) != right {
			t.Errorf("RightRange(%q)", r)
		}
		for _, s := range texts {
			if key.Holds(r, s) != has(r, s) {
				t.Errorf("Holds(%q, %q)", r, s)
			}
		}
	}
	for _, s := range texts {
		if p := key.Point(s); p.From != s || p.To != s+"\x00" || !key.Holds(p, s) || key.Holds(p, s+"\x00") {
			t.Errorf("Point(%q) = %q", s, p)
		}
	}
}

func TestMeetAndWithin(t *testing.T) {
	for _, a := range ranges() {
		for _, b := range ranges() {
			right := key.RightRange(a) && key.RightRange(b)
			within := right && a.From >= b.From && !key.Before(b.To, a.To)
			if key.Within(a, b) != within {
				t.Fatalf("Within(%q, %q) = %v", a, b, !within)
			}
			m, ok := key.Meet(a, b)
			want := api.Range{From: max(a.From, b.From), To: key.First(a.To, b.To)}
			if wantOK := right && key.RightRange(want); ok != wantOK || ok && m != want || !ok && m != (api.Range{}) {
				t.Fatalf("Meet(%q, %q) = %q, %v", a, b, m, ok)
			}
			for _, s := range texts {
				if right && (ok && has(m, s)) != (has(a, s) && has(b, s)) {
					t.Fatalf("Meet(%q, %q): %q", a, b, s)
				}
			}
		}
	}
}

// P2.2, P2.4
func TestSplit(t *testing.T) {
	for _, r := range ranges() {
		for _, at := range texts {
			a, b, ok := key.Split(r, at)
			if want := key.RightRange(r) && at > r.From && (r.To == "" || at < r.To); ok != want {
				t.Fatalf("Split(%q, %q): %v", r, at, ok)
			}
			if !ok {
				if a != (api.Range{}) || b != (api.Range{}) {
					t.Fatalf("Split(%q, %q): parts beside false", r, at)
				}
				continue
			}
			if a != (api.Range{From: r.From, To: at}) || b != (api.Range{From: at, To: r.To}) {
				t.Fatalf("Split(%q, %q) = %q, %q", r, at, a, b)
			}
		}
	}
}

// P2.3
func TestSharedAndBetween(t *testing.T) {
	for _, x := range []struct {
		a, b string
		n    int
	}{{"", "", 0}, {"", "a", 0}, {"abc", "abq", 2}, {"ab", "ab", 2}, {"ab", "abc", 2}, {"b", "a", 0}} {
		if key.Shared(x.a, x.b) != x.n || key.Shared(x.b, x.a) != x.n {
			t.Errorf("Shared(%q, %q) = %d", x.a, x.b, key.Shared(x.a, x.b))
		}
	}
	for _, x := range [][3]string{{"abc", "abq", "abq"}, {"ab", "b", "b"}, {"a", "abc", "ab"}, {"", "abc", "a"}, {"b", "a", ""}, {"a", "a", ""}, {"", "", ""}} {
		if got := key.Between(x[0], x[1]); got != x[2] {
			t.Errorf("Between(%q, %q) = %q, want %q", x[0], x[1], got, x[2])
		}
	}
	for _, a := range texts {
		for _, b := range texts {
			s := key.Between(a, b)
			if a < b && !(a < s && s <= b) {
				t.Errorf("Between(%q, %q) = %q", a, b, s)
			}
			for _, x := range texts {
				if a < x && x <= b && len(x) < len(s) {
					t.Errorf("Between(%q, %q) = %q, but %q is shorter", a, b, s, x)
				}
			}
		}
	}
}

// P2.3, P2.4
func TestPieces(t *testing.T) {
	r := api.Range{From: "b", To: "m"}
	for _, x := range []struct {
		r    api.Range
		ends []string
		want []api.Range
	}{
		{r, nil, []api.Range{r}},
		{r, []string{"c", "f"}, []api.Range{{From: "b", To: "c"}, {From: "c", To: "f"}, {From: "f", To: "m"}}},
		{r, []string{"a", "b", "c", "c", "m", "z", ""}, []api.Range{{From: "b", To: "c"}, {From: "c", To: "m"}}},
		{api.Range{From: "b"}, []string{"z"}, []api.Range{{From: "b", To: "z"}, {From: "z"}}},
		{api.Range{From: "b", To: "b"}, []string{"c"}, nil},
		{api.Range{From: "b", To: "a"}, nil, nil},
	} {
		ends := slices.Clone(x.ends)
		if got := key.Pieces(x.r, x.ends...); !slices.Equal(got, x.want) {
			t.Errorf("Pieces(%q, %q) = %q, want %q", x.r, x.ends, got, x.want)
		}
		if !slices.Equal(ends, x.ends) {
			t.Error("the ends were changed")
		}
	}
	for _, r := range ranges() {
		pieces := key.Pieces(r, texts...)
		for _, s := range texts {
			n := 0
			for _, p := range pieces {
				if has(p, s) {
					n++
				}
			}
			if want := has(r, s); n > 1 || (n == 1) != want {
				t.Errorf("Pieces(%q): %q lies in %d", r, s, n)
			}
		}
	}
}
