package block_test

import (
	"math"
	"math/rand/v2"
	"slices"
	"strings"
	"testing"

	"catchment/api"
	"catchment/block"
	"catchment/fold"
	"catchment/key"
	"catchment/word"
)

func ents(l ...string) []api.Entry {
	var e []api.Entry
	for i := 0; i < len(l); i += 2 {
		e = append(e, api.Entry{Key: l[i], Value: l[i+1]})
	}
	return e
}

func is(t *testing.T, what string, got, want []api.Entry) {
	t.Helper()
	if !slices.Equal(got, want) {
		t.Errorf("%s: %q, want %q", what, got, want)
	}
}

// P10.1
func TestRight(t *testing.T) {
	for i, x := range []struct {
		e    []api.Entry
		most int
		want bool
	}{
		{nil, 5, false}, {ents("a", ""), 1, true}, {ents("", ""), 1, true}, {ents("a", ""), 0, false}, {ents("a", ""), -1, false},
		{ents("a", "", "b", ""), 2, true}, {ents("a", "", "b", ""), 1, false}, {ents("a", "", "a", ""), 5, false}, {ents("b", "", "a", ""), 5, false},
	} {
		if block.Right(x.e, x.most) != x.want {
			t.Errorf("case %d", i)
		}
	}
}

func TestSteps(t *testing.T) {
	e := ents("b", "1", "d", "2", "f", "3")
	for s, want := range map[string]int{"": 0, "a": 0, "b": 0, "c": 1, "d": 1, "e": 2, "f": 2, "g": 3} {
		there := s == "b" || s == "d" || s == "f"
		if i, ok := block.Place(e, s); i != want || ok != there {
			t.Errorf("Place(%q) = %d, %v", s, i, ok)
		}
	}
	is(t, "Put of a new one", block.Put(e, api.Entry{Key: "c", Value: "x"}), ents("b", "1", "c", "x", "d", "2", "f", "3"))
	is(t, "Put ahead", block.Put(e, api.Entry{Key: "a", Value: "x"}), ents("a", "x", "b", "1", "d", "2", "f", "3"))
	is(t, "Put behind", block.Put(e, api.Entry{Key: "z", Value: "x"}), ents("b", "1", "d", "2", "f", "3", "z", "x"))
	is(t, "Put of one that is there", block.Put(e, api.Entry{Key: "d", Value: "x"}), ents("b", "1", "d", "x", "f", "3"))
	is(t, "Put into none", block.Put(nil, api.Entry{Key: "d", Value: "x"}), ents("d", "x"))
	is(t, "Drop", block.Drop(e, "d"), ents("b", "1", "f", "3"))
	is(t, "Drop of none", block.Drop(e, "c"), e)
	is(t, "Cut", block.Cut(e, api.Range{From: "b", To: "f"}), ents("f", "3"))
	is(t, "Cut without an end", block.Cut(e, api.Range{From: "c"}), ents("b", "1"))
	is(t, "Cut of no right range", block.Cut(e, api.Range{From: "d", To: "d"}), e)
	is(t, "what was handed in", e, ents("b", "1", "d", "2", "f", "3"))
	a, b := block.Halves(e)
	is(t, "first half", a, ents("b", "1"))
	is(t, "second half", b, ents("d", "2", "f", "3"))
	a, b = block.Halves(nil)
	is(t, "first half of none", a, nil)
	is(t, "second half of none", b, nil)
	if block.Size(ents("ab", "xyz", "c", "")) != 6 || block.Size(nil) != 0 {
		t.Error("Size")
	}
}

func TestApply(t *testing.T) {
	texts := []string{"", "a", "b", "c", "d"}
	r := rand.New(rand.NewPCG(1, 1))
	for range 3000 {
		var e []api.Entry
		for _, s := range texts {
			if r.IntN(2) == 0 {
				e = append(e, api.Entry{Key: s, Value: []string{"", "v", word.Put(3)}[r.IntN(3)]})
			}
		}
		m := api.Msg{Kind: api.Kind(r.IntN(6)), Key: texts[r.IntN(5)], Delta: uint64(r.IntN(3)), Value: "w"}
		if m.Kind == api.Clear {
			m.To = texts[r.IntN(5)]
		}
		was := slices.Clone(e)
		is(t, "Apply", block.Apply(e, m), fold.Entries([]api.Msg{m}, e, api.Range{}))
		is(t, "what was handed in", e, was)
	}
}

// R1 and what is told shares no room
func TestNewMemory(t *testing.T) {
	room := append(make([]api.Entry, 0, 9), ents("b", "1", "d", "2", "f", "3")...)
	was := slices.Clone(room)
	put := api.Msg{Kind: api.Put, Key: "e"}
	a, b := block.Halves(room)
	for _, x := range [][]api.Entry{a, b, block.Put(room, api.Entry{Key: "z"}), block.Put(room, api.Entry{Key: "b"}), block.Drop(room, "f"), block.Drop(room, "x"),
		block.Cut(room, api.Range{From: "x"}), block.Apply(room, put), block.Apply(room, api.Msg{})} {
		for i := range x {
			x[i].Value = "changed"
		}
		_ = append(x, api.Entry{Key: "more"})
	}
	is(t, "what was handed in", room, was)
	if behind := room[:9][3:]; slices.ContainsFunc(behind, func(x api.Entry) bool { return x != api.Entry{} }) {
		t.Error("the room behind a list's end was changed")
	}
}

// P10.2
func TestPack(t *testing.T) {
	for _, x := range []struct {
		e    []api.Entry
		want string
	}{
		{ents("ab", "1", "ac", "2"), "\x02\x00\x02ab\x011\x01\x01c\x012"},
		{nil, "\x00"},
		{ents("", ""), "\x01\x00\x00\x00"},
		{ents("a", "", "a", ""), ""},
		{ents("b", "", "a", ""), ""},
	} {
		if got := block.Pack(x.e); got != x.want {
			t.Errorf("Pack(%q) = %x", x.e, got)
		}
	}
}

func TestUnpackWrong(t *testing.T) {
	long, value := strings.Repeat("k", api.MaxKey+1), strings.Repeat("v", api.MaxValue+1)
	for s, want := range map[string]api.Errno{
		"":                                 api.ErrEnd,
		"\x80\x00":                         api.ErrForm,
		"\x01":                             api.ErrEnd,
		"\x00x":                            api.ErrForm,
		"\x01\x01":                         api.ErrForm, // the first one shares something, ahead of what is missing
		"\x01\x00\x02a":                    api.ErrEnd,
		"\x01\x00\x01a":                    api.ErrEnd,
		"\x01\x00\x01a\x00z":               api.ErrForm,
		"\x02\x00\x01a\x00":                api.ErrEnd,
		"\x02\x00\x01a\x00\x02\x01b":       api.ErrForm,
		"\x02\x00\x01a\x00\x00\x01a":       api.ErrOrder, // asked ahead of the value that is not there
		"\x02\x00\x01b\x00\x00\x01a":       api.ErrOrder,
		"\x02\x00\x01a\x00\x00\x02ab":      api.ErrOrder, // shares more than is told
		"\x02\x00\x01a\x00\x01\x00":        api.ErrOrder,
		"\x02\x00\x01a\x00\x01\x01b":       api.ErrEnd,
		"\xff\xff\xff\xff\x07\x00\x01a":    api.ErrEnd,
		"\x01\x00" + word.Text(long):       api.ErrLimit,
		"\x01\x00\x01a" + word.Text(value): api.ErrLimit,
		"\x01\x00\x01a\x80\x00":            api.ErrForm,
	} {
		if e, err := block.Unpack(s); len(e) != 0 || err != want {
			t.Errorf("Unpack(%.20x) = %q, %d, want %d", s, e, err, want)
		}
	}
}

// P10.3
func TestPackComesBack(t *testing.T) {
	r := rand.New(rand.NewPCG(2, 2))
	for range 500 {
		var e []api.Entry
		for i := range r.IntN(20) {
			e = append(e, api.Entry{Key: strings.Repeat("x", r.IntN(4)) + string(rune('a'+i)), Value: strings.Repeat("v", r.IntN(200))})
		}
		slices.SortFunc(e, func(a, b api.Entry) int { return strings.Compare(a.Key, b.Key) })
		s := block.Pack(e)
		got, err := block.Unpack(s)
		is(t, "Unpack", got, e)
		if err != api.OK {
			t.Fatal(err)
		}
		// Of bytes with a fault what can be read has just those bytes.
		bad := []byte(s)
		bad[r.IntN(len(bad))] = byte(r.IntN(6))
		if e, err := block.Unpack(string(bad)); err == api.OK && block.Pack(e) != string(bad) {
			t.Fatalf("%x is read as %q", bad, e)
		} else if err != api.OK && len(e) != 0 {
			t.Fatal("entries beside an error")
		}
	}
	if got, err := block.Unpack("\x02\x00\x00\x00\x00\x01a\x00"); err != api.OK || !slices.Equal(got, ents("", "", "a", "")) {
		t.Error("an empty key", got, err)
	}
	if got, err := block.Unpack("\x00"); err != api.OK || len(got) != 0 {
		t.Error("no entries", got, err)
	}
	// A key may become longer than one that is packed may be.
	long := ents(strings.Repeat("k", api.MaxKey), "", strings.Repeat("k", api.MaxKey)+"l", "")
	if got, err := block.Unpack(block.Pack(long)); err != api.OK || !slices.Equal(got, long) {
		t.Error("a long key", err)
	}
}

// P10.4
func TestWhatFollows(t *testing.T) {
	r := rand.New(rand.NewPCG(3, 3))
	var e []api.Entry
	for range 2000 {
		s := string(rune('a' + r.IntN(26)))
		switch r.IntN(4) {
		case 0, 1:
			e = block.Put(e, api.Entry{Key: s, Value: "v"})
		case 2:
			e = block.Drop(e, s)
		case 3:
			e = block.Cut(e, api.Range{From: s, To: key.After(s) + "\xff"})
		}
		if !fold.Rises(e) {
			t.Fatalf("%q", e)
		}
		a, b := block.Halves(e)
		if len(a) != len(e)/2 || !slices.Equal(append(a, b...), e) {
			t.Fatal("Halves")
		}
	}
	for _, most := range []int{math.MinInt, math.MaxInt} {
		block.Right(e, most)
	}
}
