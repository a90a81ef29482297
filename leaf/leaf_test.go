package leaf_test

import (
	"math"
	"math/rand/v2"
	"slices"
	"strings"
	"testing"

	"catchment/api"
	"catchment/fold"
	"catchment/leaf"
	"catchment/word"
)

// row makes a row of texts: a block each, whose entries are its letters; the
// value of a letter is the letter twice.
func row(blocks ...string) [][]api.Entry {
	var b [][]api.Entry
	for _, s := range blocks {
		var e []api.Entry
		for _, k := range s {
			e = append(e, api.Entry{Key: string(k), Value: string(k) + string(k)})
		}
		b = append(b, e)
	}
	return b
}

// told is a row as a text: the keys of its blocks, parted by bars.
func told(b [][]api.Entry) string {
	var l []string
	for _, e := range b {
		s := ""
		for _, x := range e {
			s += x.Key
		}
		l = append(l, s)
	}
	return strings.Join(l, "|")
}

func put(k string) api.Msg     { return api.Msg{Kind: api.Put, Key: k, Value: k + k} }
func del(k string) api.Msg     { return api.Msg{Kind: api.Delete, Key: k} }
func clr(k, to string) api.Msg { return api.Msg{Kind: api.Clear, Key: k, To: to} }

func is(t *testing.T, what string, b [][]api.Entry, want string) {
	t.Helper()
	if got := told(b); got != want {
		t.Errorf("%s: %s, want %s", what, got, want)
	}
}

// P11.1
func TestRight(t *testing.T) {
	for i, x := range []struct {
		b    [][]api.Entry
		most int
		want bool
	}{
		{nil, 2, true}, {nil, -1, true}, {row("ab", "c"), 2, true}, {row("ab", "c"), 1, false}, {row("a"), 1, true}, {row("a"), 0, false},
		{row("ab", "", "c"), 2, false}, {row(""), 2, false}, {row("ab", "b"), 2, false}, {row("ba"), 2, false}, {row("c", "ab"), 2, false},
	} {
		if leaf.Right(x.b, x.most) != x.want {
			t.Errorf("case %d", i)
		}
	}
}

func TestEntriesAndFind(t *testing.T) {
	b := row("ab", "d", "fgh")
	want := row("abdfgh")[0]
	if got := leaf.Entries(b); !slices.Equal(got, want) {
		t.Errorf("Entries: %q", got)
	}
	var all []api.Entry
	for k, v := range leaf.All(b) {
		all = append(all, api.Entry{Key: k, Value: v})
	}
	if !slices.Equal(all, want) || leaf.Count(b) != 6 || leaf.Count(nil) != 0 || len(leaf.Entries(nil)) != 0 {
		t.Errorf("All: %q", all)
	}
	for range leaf.All(b) {
		break
	}
	for k := range "abcdefghi" {
		s := string(rune('a' + k))
		v, ok := leaf.Find(b, s)
		if there := strings.Contains("abdfgh", s); ok != there || there && v != s+s || !there && v != "" {
			t.Errorf("Find(%q) = %q, %v", s, v, ok)
		}
	}
	if v, ok := leaf.Find(nil, ""); v != "" || ok {
		t.Error("Find in none")
	}
}

// P11.2
func TestMake(t *testing.T) {
	for _, x := range []struct {
		s    string
		most int
		want string
	}{
		{"", 4, ""}, {"a", 4, "a"}, {"abcd", 4, "abcd"}, {"abcde", 4, "ab|cde"}, {"abcdefghij", 4, "abc|def|ghij"},
		{"abc", 2, "a|bc"}, {"abc", 1, "a|bc"}, {"abc", -9, "a|bc"}, {"abc", math.MinInt, "a|bc"}, {"abc", math.MaxInt, "abc"}, {"abcdefg", 3, "ab|cd|efg"},
	} {
		is(t, "Make of "+x.s, leaf.Make(leaf.Entries(row(x.s)), x.most), x.want)
	}
}

// P11.3
func TestApply(t *testing.T) {
	for _, x := range []struct {
		b    [][]api.Entry
		m    api.Msg
		most int
		want string
	}{
		{row("ab", "de"), put("c"), 2, "a|bc|de"},
		{row("ab", "de"), put("c"), 3, "abc|de"},
		{row("bc", "de"), put("a"), 2, "a|bc|de"},
		{row("ab", "de"), put("z"), 2, "ab|d|ez"},
		{row("ab", "de"), put("d"), 2, "ab|de"},
		{nil, put("a"), 2, "a"},
		{nil, del("a"), 2, ""},
		{nil, clr("", ""), 2, ""},
		{row("a", "b"), del("a"), 2, "b"},
		{row("ab", "cd"), del("c"), 2, "ab|d"},
		{row("ab", "c"), del("a"), 4, "bc"},              // with the next one
		{row("a", "bc", "d"), del("c"), 4, "a|bd"},       // with the next one rather than with the one ahead
		{row("a", "bc", "defg"), del("c"), 4, "ab|defg"}, // with the one ahead, as the next one has too many
		{row("a", "bc"), del("b"), 4, "ac"},              // with the one ahead, as there is no next one
		{row("a", "bc", "d"), del("c"), 3, "a|b|d"},      // two are more than half of three
		{row("abc", "defg"), del("a"), 4, "bc|defg"},
		{row("a", "b"), put("a"), 9, "a|b"}, // as many as ahead: no two are made one
		{row("a", "b"), del("z"), 9, "a|b"},
		{row("abcd"), put("a"), 2, "ab|cd"}, // too many ahead
		{row("abcdef"), del("a"), 2, "bc|def"},
		{row("abc"), put("d"), 0, "ab|cd"},
		{row("ab"), put("c"), 1, "a|bc"}, // below MinBlock counts as MinBlock
		{row("a"), put("b"), 1, "ab"},
		{row("ab", "cd", "ef"), clr("b", "e"), 9, "a|ef"},
		{row("ab", "cd", "ef"), clr("b", ""), 9, "a"},
		{row("ab"), clr("b", "b"), 9, "ab"},
		{row("abcd", "e"), clr("a", "b"), 2, "bcd|e"}, // a Clear makes no halves
		{row("ab", "cd"), api.Msg{Key: "a"}, 2, "ab|cd"},
		{row("ab", "cd"), api.Msg{Kind: 9, Key: "a"}, 2, "ab|cd"},
	} {
		was := told(x.b)
		is(t, "Apply to "+was, leaf.Apply(x.b, x.m, x.most), x.want)
		is(t, "Fold of "+was, leaf.Fold(x.b, []api.Msg{x.m}, x.most), x.want)
		is(t, "what was handed in", x.b, was)
	}
	is(t, "Fold", leaf.Fold(row("ab", "de"), []api.Msg{put("c"), del("d"), put("f")}, 2), "a|bc|ef")
	is(t, "Fold of none", leaf.Fold(row("ab"), nil, 2), "ab")
	if b := leaf.Apply(row("a"), api.Msg{Kind: api.Add, Key: "a", Delta: 4}, 2); b[0][0].Value != "aa" {
		t.Error("Add", b)
	}
	if b := leaf.Apply(row("a"), api.Msg{Kind: api.Add, Key: "b", Delta: 4}, 2); b[0][1].Value != word.Put(4) {
		t.Error("Add to none", b)
	}
}

// P11.5
func TestFoldMakesWhatMessagesMake(t *testing.T) {
	r := rand.New(rand.NewPCG(1, 1))
	for range 500 {
		most := 2 + r.IntN(4)
		b := leaf.Make(row("cfilorux")[0][:r.IntN(9)], most)
		var l []api.Msg
		for range r.IntN(40) {
			m := api.Msg{Kind: api.Kind(r.IntN(6)), Key: string(rune('a' + r.IntN(26))), Value: "v", Delta: 3}
			if r.IntN(8) > 0 && m.Kind == api.Clear {
				m.Kind = api.Put
			}
			if m.Kind == api.Clear {
				m.To = string(rune('a' + r.IntN(26)))
			}
			l = append(l, m)
		}
		got := leaf.Fold(b, l, most)
		if want := fold.Entries(l, leaf.Entries(b), api.Range{}); !slices.Equal(leaf.Entries(got), want) {
			t.Fatalf("%s folded by %+v: %s, want %q", told(b), l, told(got), want)
		}
		if !leaf.Right(got, most) {
			t.Fatalf("%s is not right for %d", told(got), most)
		}
		one := b
		for _, m := range l {
			one = leaf.Apply(one, m, most)
		}
		is(t, "Apply one by one", one, told(got))
	}
}

// P11.4, P11.6
func TestHalves(t *testing.T) {
	for _, x := range []struct {
		b             [][]api.Entry
		first, second string
		at            string
	}{
		{nil, "", "", ""}, {row("a"), "a", "", ""}, {row("ab"), "a", "b", "b"}, {row("abc"), "a", "bc", "b"},
		{row("a", "b", "c", "d"), "a|b", "c|d", "c"}, {row("abde"), "ab", "de", "d"}, {row("a", "bcd", "e"), "a|b", "cd|e", "c"},
		{row("abc", "d", "e"), "ab", "c|d|e", "c"}, {row("a", "b", "cdef"), "a|b|c", "def", "d"},
	} {
		was := told(x.b)
		a, b, at := leaf.Halves(x.b)
		is(t, "first half of "+was, a, x.first)
		is(t, "second half of "+was, b, x.second)
		is(t, "what was handed in", x.b, was)
		if at != x.at {
			t.Errorf("between the halves of %s: %q", was, at)
		}
	}
	_, _, at := leaf.Halves([][]api.Entry{{{Key: "abc"}, {Key: "abqz"}}})
	if at != "abq" {
		t.Errorf("between: %q", at)
	}
}

func TestEven(t *testing.T) {
	for _, x := range []struct {
		a, b          [][]api.Entry
		first, second string
		at            string
	}{
		{row("a"), row("de"), "a", "de", "d"}, {row("ab", "c"), row("de"), "ab", "c|de", "c"}, {nil, row("abcd"), "ab", "cd", "c"},
		{row("abc", "d"), nil, "ab", "c|d", "c"}, {nil, nil, "", "", ""}, {row("a"), nil, "a", "", ""},
	} {
		a, b, at := leaf.Even(x.a, x.b)
		is(t, "first", a, x.first)
		is(t, "second", b, x.second)
		if at != x.at {
			t.Errorf("between: %q", at)
		}
	}
}

// spoil writes over all of an answer, and over the room behind its ends.
func spoil(rows ...[][]api.Entry) {
	for _, b := range rows {
		for i, e := range b {
			for j := range e {
				e[j].Value = "spoilt"
			}
			_ = append(e, api.Entry{Key: "spoilt"})
			b[i] = nil
		}
		_ = append(b, nil)
	}
}

func TestNewMemory(t *testing.T) {
	b := append(make([][]api.Entry, 0, 9), row("abc", "d", "ef")...)
	for i := range b {
		b[i] = append(make([]api.Entry, 0, 9), b[i]...)
	}
	other := row("x")
	for range 2 {
		x, y, _ := leaf.Halves(b)
		spoil(x, y)
		x, y, _ = leaf.Even(b, other)
		spoil(x, y)
		x, y, _ = leaf.Even(b, nil)
		spoil(x, y)
		x, y, _ = leaf.Halves(other)
		spoil(x, y, leaf.Apply(b, put("z"), 3), leaf.Apply(b, del("d"), 9), leaf.Apply(b, clr("x", ""), 3), leaf.Apply(b, api.Msg{}, 3), leaf.Fold(b, nil, 3), leaf.Make(b[0], 3))
		e := leaf.Entries(b[:1])
		spoil([][]api.Entry{e})
		is(t, "what was handed in", b, "abc|d|ef")
		for _, x := range leaf.Entries(b) {
			if x.Value == "spoilt" {
				t.Fatal("an answer lies in what was handed in")
			}
		}
		for _, e := range b {
			if e[:9][len(e)] != (api.Entry{}) {
				t.Fatal("the room behind a block was changed")
			}
		}
		if b[:9][3] != nil {
			t.Fatal("the room behind a row was changed")
		}
	}
}

// R1: what is no row ends, too.
func TestNoRows(t *testing.T) {
	for _, b := range [][][]api.Entry{{nil}, {nil, nil}, {{}, {{Key: "b"}, {Key: "a"}}, nil, {{Key: "b"}}}, {{{Key: "z"}}, {{Key: "a"}}}} {
		for _, most := range []int{math.MinInt, 0, math.MaxInt} {
			for _, m := range []api.Msg{put("a"), del("b"), clr("", ""), {}} {
				leaf.Apply(b, m, most)
				leaf.Fold(b, []api.Msg{m, m}, most)
			}
			leaf.Make(leaf.Entries(b), most)
			leaf.Right(b, most)
		}
		leaf.Halves(b)
		leaf.Even(b, b)
		leaf.Find(b, "a")
	}
}
